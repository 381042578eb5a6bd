/- The distances of all pairs: the rows. -/
import Derived.Test.YtjiaejempfhheaaPairP
import Derived.Test.YtjiaejempfhheaaIntSS
namespace Go.Proofs.Ytjiaejempfhheaa
open Go.ChangeShapes Go.WideShapes Go.ChangeAt Go.RowKit Go.ChangeMaps Go.Sort
set_option linter.unusedSimpArgs false
set_option linter.unusedVariables false

def cellsP (p : GPair) : List Value := [.int .i64 p.1.pId, .int .i64 p.2.pId, .int .i64 (dP p)]
def slV (b : Nat) : Value := .slice (some ⟨b, 0, none⟩) 3 3
/-- The rows of pairs, each in a block of its own. -/
structure RowsP (w : World) (base g : Nat) (ol : List GPair) (bs : List Nat) : Prop where
  len : bs.length = ol.length
  nodup : bs.Nodup
  low : ∀ b ∈ bs, base ≤ b
  ne : g ∉ bs
  at_ : ∀ (i b : Nat) (p : GPair), bs[i]? = some b → ol[i]? = some p → Bx w b (cellsP p)
theorem RowsP.below {w w' : World} {base g : Nat} {ol : List GPair} {bs : List Nat} (h : RowsP w base g ol bs) (hb : Below w.heap.size w w') : RowsP w' base g ol bs :=
  ⟨h.len, h.nodup, h.low, h.ne, fun i b p h1 h2 => (h.at_ i b p h1 h2).below hb⟩
theorem own_ne {v v' : Value} {b c : Nat} (h : v'.ownBlock = v.ownBlock ∨ v'.ownBlock = some c) (hv : v.ownBlock ≠ some b) (hc : c ≠ b) : v'.ownBlock ≠ some b := by
  rcases h with h | h
  · rw [h]; exact hv
  · rw [h]; exact fun e => hc (Option.some.inj e)
theorem rows_eq {w : World} {base g n cap k bT : Nat} {e : TypeId} {bs : List Nat} (h : w.ownsRow base e 1 (.slice (some ⟨g, 0, none⟩) n cap) n ((bs.take k).map slV ++ [.slice (some ⟨bT, 0, none⟩) 3 3] ++ (bs.drop k).map slV)) :
    w.ownsRow base e 1 (.slice (some ⟨g, 0, none⟩) n cap) n ((bs.take k ++ bT :: bs.drop k).map slV) := by
  have e1 : (bs.take k ++ bT :: bs.drop k).map slV = (bs.take k).map slV ++ [.slice (some ⟨bT, 0, none⟩) 3 3] ++ (bs.drop k).map slV := by
    rw [List.map_append, List.map_cons, List.append_assoc]; rfl
  rw [e1]; exact h
/-- A new row among the rows. -/
theorem rowsP_ins {w4 w7 : World} {base g g7 k bT : Nat} {ol : List GPair} {bs : List Nat} {p : GPair} {x y d : Int} (h : RowsP w4 base g ol bs) (hk : k ≤ ol.length)
    (hb : Bx w7 bT [.int .i64 x, .int .i64 y, .int .i64 d]) (e : [Value.int .i64 p.1.pId, .int .i64 p.2.pId] = [.int .i64 x, .int .i64 y]) (ed : dP p = d) (hbase : base ≤ w4.heap.size) (hT : w4.heap.size ≤ bT) (B7 : Below w4.heap.size w4 w7) (hg : g7 ≠ bT) (hg7 : w4.heap.size ≤ g7) :
    RowsP w7 base g7 (ol.take k ++ p :: ol.drop k) (bs.take k ++ bT :: bs.drop k) := by
  have hlt : ∀ b ∈ bs, b < w4.heap.size := by
    intro b hb
    obtain ⟨i, hi⟩ := List.mem_iff_getElem?.1 hb
    obtain ⟨p, hp⟩ := get_of_lt (l := ol) (k := i) (by rw [← h.len]; exact (List.getElem?_eq_some_iff.1 hi).1)
    exact (h.at_ i b p hi hp).1.1
  have hl := h.len
  have hperm : (bs.take k ++ bT :: bs.drop k).Perm (bs ++ [bT]) := perm_ins bs bT k
  refine ⟨by simp only [List.length_append, List.length_cons, List.length_take, List.length_drop]; omega, ?_, ?_, ?_, ?_⟩
  · rw [hperm.nodup_iff, List.nodup_append]
    exact ⟨h.nodup, by simp, fun a ha b hb => by have := hlt a ha; simp only [List.mem_singleton] at hb; omega⟩
  · intro b hb
    rcases List.mem_append.1 (hperm.subset hb) with q | q
    · exact h.low b q
    · simp only [List.mem_singleton] at q; omega
  · intro hb
    rcases List.mem_append.1 (hperm.subset hb) with q | q
    · have := hlt g7 q; omega
    · simp only [List.mem_singleton] at q; exact hg q
  · intro i b r h1 h2
    have l1 : (bs.take k).length = k := by rw [List.length_take]; omega
    have l2 : (ol.take k).length = k := by rw [List.length_take]; omega
    rcases Nat.lt_trichotomy i k with q | q | q
    · rw [List.getElem?_append_left (by omega), List.getElem?_take, if_pos q] at h1 h2
      exact (h.at_ i b r h1 h2).below B7
    · subst q
      rw [List.getElem?_append_right (by omega), l1, Nat.sub_self, List.getElem?_cons_zero] at h1
      rw [List.getElem?_append_right (by omega), l2, Nat.sub_self, List.getElem?_cons_zero] at h2
      cases h1; cases h2
      simp only [List.cons.injEq, and_true] at e
      unfold cellsP
      rw [e.1, e.2, ed]
      exact hb
    · obtain ⟨j, rfl⟩ : ∃ j, i = k + 1 + j := ⟨i - (k + 1), by omega⟩
      rw [List.getElem?_append_right (by omega), l1, show k + 1 + j - k = j + 1 by omega, List.getElem?_cons_succ, List.getElem?_drop] at h1
      rw [List.getElem?_append_right (by omega), l2, show k + 1 + j - k = j + 1 by omega, List.getElem?_cons_succ, List.getElem?_drop] at h2
      exact (h.at_ _ b r h1 h2).below B7
theorem infoInts : (Try.prog.info? 27).map (fun i => (i.zero, i.size, i.bytes)) = some (some (.slice none 0 0), 1, 24) := by kernel_rfl

end Go.Proofs.Ytjiaejempfhheaa
