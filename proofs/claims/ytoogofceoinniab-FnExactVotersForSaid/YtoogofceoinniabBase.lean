/- Own groundwork for the laws of this seat: what a law's row asks, out of one contract on the call. -/
import Derived.Test.YtoogofceoinniabRows
import Derived.WalkKit
import Derived.ProofKit
import Derived.OpenShut
import Derived.Carry
import Derived.ChangeSame
import Derived.WalkLawsBesides
import Derived.WalkSpells
import Derived.Lib.Hide
import Derived.Deep.QuietTactic
import Derived.BigQuiet
import Derived.Maps.AppendAt
import Derived.Deep.RegionHeld3
import Derived.Outline
namespace Go.Proofs.Ytoogofceoinniab
open Go.ChangeShapes Go.WideShapes Go.ChangeAt Go.RowKit Go.ChangeMaps
set_option linter.unusedSimpArgs false
set_option linter.unusedVariables false

section
variable {H : Type} {enc : TypeId × Value → H} {P : Program}

theorem argsBack (hl : laidOutB P = true) {W W' : World} (hb : Below W.heap.size W W') :
    ∀ (ts : List TypeId) (vs : List Value) (ds : List (DataW H)) (ps : List MemPlace),
      (∀ t ∈ ts, P.readableRec t = true ∧ t < P.types.size) → (∀ x ∈ ps, x.block < W.heap.size) →
      DataW.TrodAll enc P W 0 (fun _ => true) true ts vs ds ps →
      DataW.TrodAll enc P W' 0 (fun b => decide (b < W.heap.size)) true ts vs ds ps
  | [], vs, ds, ps, _, _, h => by
    obtain ⟨rfl, rfl, rfl⟩ := trodAll_nil h
    rfl
  | t :: ts, vs, ds, ps, ht, hp, h => by
    obtain ⟨v, vs', d, ds', p, q, rfl, rfl, rfl, h1, h2⟩ := trodAll_cons h
    refine ⟨p, q, ?_, ?_, rfl⟩
    · exact Below.trod hl (ht t (by simp)).1 (ht t (by simp)).2 h1 hb (fun x hx => hp x (by simp [hx]))
    · exact argsBack hl hb ts vs' ds' q (fun t' h' => ht t' (by simp [h'])) (fun x hx => hp x (by simp [hx])) h2

/-- A LAW's ROW OUT OF ITS CALL: it answers true and turns nothing that was there. -/
theorem lawPost {f : FuncId} {fn : Func} {s : ChangeSpec} {tb : TypeId} (hvars : s.vars = []) (hres : fn.resultTypes = #[tb]) (htb : P.underlying tb = some .bool)
    (hl : laidOutB P = true) (hread : fn.params.toList.all (fun t => P.readableRec t && decide (t < P.types.size)) = true)
    {W : World} {args : Array Value} {ds gs : List (DataW H)} {before : List MemPlace}
    (hW : DataW.Whole enc P fn.params.toList s.vars false W args.toList ds gs before)
    (hs : gs = [] → (s.fn H (ds ++ gs)).results = [.lit (.bool true)] ∧ (s.fn H (ds ++ gs)).args = ds ∧ (s.fn H (ds ++ gs)).vars = [])
    (h : Calls P f args W fun e W' => e = .returned (.bool true) ∧ Below W.heap.size W W') :
    Calls P f args W fun e W' => ∃ v, e = .returned v ∧ s.post enc P fn false true false false W args v W' := by
  refine h.mono fun e W' ⟨he, hb⟩ => ⟨_, he, ?_⟩
  have hlt : ∀ p ∈ before, p.block < W.heap.size := fun p hp => hW.lt p hp
  have hW' := hW
  obtain ⟨p, q, hA, hV, rfl, hfz, hnd⟩ := hW
  rw [hvars] at hV
  obtain ⟨rfl, rfl⟩ := trodVars_none hV
  obtain ⟨h1, h2, h3⟩ := hs rfl
  have hread' : ∀ t ∈ fn.params.toList, P.readableRec t = true ∧ t < P.types.size := fun t ht => by
    have := List.all_eq_true.1 hread t ht
    simpa using this
  have hback : DataW.TrodAll enc P W' 0 (fun b => decide (b < W.heap.size)) true fn.params.toList args.toList ds p :=
    argsBack hl hb _ _ _ _ hread' (fun x hx => hlt x (by simp [hx])) hA
  refine ⟨ds, [], p ++ [], [], p, [], hW', ?_, ?_, ?_, ?_, ?_⟩
  · rw [h1, hres]
    exact trodAll_cons_mk (shut_bool htb _) rfl
  · rw [h2]; exact hback
  · rw [h3, hvars]; rfl
  · refine World.keptBut_mono (fun x hx => ⟨hx, ?_⟩) (hb.frame (· ∈ p ++ []))
    exact Or.inr (Or.inl (by simpa using hx))
  · intro hag
    exact absurd hag (by simp)
end

/-- A slice whose elements lie in one cell each, in blocks below B: the cells from its head on hold the list. -/
def Lst {α : Type} (en : α → Value) (w : World) (B : Nat) (v : Value) (xs : List α) : Prop :=
  ∃ ao cap, v = .slice ao xs.length cap ∧ xs.length ≤ cap ∧ cap ≤ maxLen ∧ (ao = none → cap = 0) ∧
    ∀ i x, xs[i]? = some x → ∃ b off, ao = some ⟨b, off, none⟩ ∧ b < B ∧ w.cell? ⟨b, off + i, none⟩ = some (en x)

theorem Lst.below {α : Type} {en : α → Value} {w w' : World} {B : Nat} {v : Value} {xs : List α} (h : Lst en w B v xs) (hb : Below B w w') : Lst en w' B v xs := by
  obtain ⟨ao, cap, h1, h2, h3, hn, h4⟩ := h
  exact ⟨ao, cap, h1, h2, h3, hn, fun i x hi => let ⟨b, off, e1, e2, e3⟩ := h4 i x hi; ⟨b, off, e1, e2, (hb.cell (p := ⟨b, off + i, none⟩) e2).trans e3⟩⟩

theorem Lst.mono {α : Type} {en : α → Value} {w : World} {B B' : Nat} {v : Value} {xs : List α} (h : Lst en w B v xs) (hb : B ≤ B') : Lst en w B' v xs := by
  obtain ⟨ao, cap, h1, h2, h3, hn, h4⟩ := h
  exact ⟨ao, cap, h1, h2, h3, hn, fun i x hi => let ⟨b, off, e1, e2, e3⟩ := h4 i x hi; ⟨b, off, e1, by omega, e3⟩⟩

/-- The same, in blocks from number L on, its cells not frozen: they may be written. -/
def Own {α : Type} (en : α → Value) (w : World) (L B : Nat) (v : Value) (xs : List α) : Prop :=
  ∃ ao cap, v = .slice ao xs.length cap ∧ xs.length ≤ cap ∧ cap ≤ maxLen ∧ (ao = none → cap = 0) ∧
    ∀ i x, xs[i]? = some x → ∃ b off, ao = some ⟨b, off, none⟩ ∧ L ≤ b ∧ b < B ∧ w.cell? ⟨b, off + i, none⟩ = some (en x) ∧ w.frozen? ⟨b, off + i, none⟩ = false

theorem Own.lst {α : Type} {en : α → Value} {w : World} {L B : Nat} {v : Value} {xs : List α} (h : Own en w L B v xs) : Lst en w B v xs := by
  obtain ⟨ao, cap, h1, h2, h3, hn, h4⟩ := h
  exact ⟨ao, cap, h1, h2, h3, hn, fun i x hi => let ⟨b, off, e1, _, e2, e3, _⟩ := h4 i x hi; ⟨b, off, e1, e2, e3⟩⟩

theorem Own.below {α : Type} {en : α → Value} {w w' : World} {L B : Nat} {v : Value} {xs : List α} (h : Own en w L B v xs) (hb : Below B w w') : Own en w' L B v xs := by
  obtain ⟨ao, cap, h1, h2, h3, hn, h4⟩ := h
  exact ⟨ao, cap, h1, h2, h3, hn, fun i x hi => let ⟨b, off, e1, e0, e2, e3, e4⟩ := h4 i x hi; ⟨b, off, e1, e0, e2, (hb.cell (p := ⟨b, off + i, none⟩) e2).trans e3, (hb.frozen (p := ⟨b, off + i, none⟩) e2).trans e4⟩⟩

theorem Own.of_row {α : Type} {en : α → Value} {w : World} {L : Nat} {e : TypeId} {v : Value} {n : Nat} {xs : List α} (h : w.ownsRow L e 1 v n (xs.map en)) : Own en w L w.heap.size v xs := by
  obtain ⟨hl, h⟩ := h
  rw [List.length_map, Nat.mul_one] at hl
  rcases h with ⟨rfl, hn⟩ | ⟨g, cap, cur, rfl, hg, hh, hn, hc, hs, ht⟩
  · have : xs = [] := List.eq_nil_of_length_eq_zero (by omega)
    subst this
    exact ⟨none, 0, rfl, by simp, by simp [maxLen], fun _ => rfl, fun i x hi => by simp at hi⟩
  · refine ⟨some ⟨g, 0, none⟩, cap, by rw [hl], by omega, hc, by simp, fun i x hi => ⟨g, 0, rfl, hg, (Array.getElem?_eq_some_iff.1 hh).1, ?_, ?_⟩⟩
    · have hlt : i < xs.length := (List.getElem?_eq_some_iff.1 hi).1
      have h2 : (xs.map en)[i]? = some (en x) := by simp [hi]
      rw [← ht, List.getElem?_take, if_pos (by omega)] at h2
      simpa [World.cell?, hh] using h2
    · simp [World.frozen?, hh]

theorem ret_int {k : IntKind} {a b : Int} (h : a = b) : Ending.returned (.int k a) = .returned (.int k b) := by rw [h]
theorem ret_bool {a b : Bool} (h : a = b) : Ending.returned (.bool a) = .returned (.bool b) := by rw [h]
theorem ret_str {a b : ByteArray} (h : a = b) : Ending.returned (.string a) = .returned (.string b) := by rw [h]
theorem get_of_lt {α : Type} {l : List α} {k : Nat} (h : k < l.length) : ∃ x, l[k]? = some x := ⟨l[k], by simp⟩
theorem take_snoc {α : Type} {l : List α} {k : Nat} {x : α} (h : l[k]? = some x) : l.take (k + 1) = l.take k ++ [x] := by
  rw [List.take_add_one, h]; rfl
theorem take_all {α : Type} {l : List α} {k : Nat} (h : ¬ k < l.length) : l.take k = l := List.take_of_length_le (by omega)

theorem drewN_b {B : Nat} {a w : World} (h : Below B a w) (n : Nat) : Below B a (w.drewN n) := h.trans ⟨rfl, rfl, rfl, Nat.le_refl _, fun _ _ => rfl⟩

theorem bytes_ext {s t : ByteArray} (h : s.data.toList = t.data.toList) : s = t := by
  cases s; cases t; simp_all
theorem str_ne {s t : ByteArray} (h : s ≠ t) : (s.toList == t.toList) = false := by
  rw [ByteArray.toList_eq, ByteArray.toList_eq]
  exact beq_eq_false_iff_ne.2 (fun e => h (bytes_ext e))

theorem cell_of_lt {w : World} {a : Addr} {v : Value} (h : w.cell? a = some v) : a.block < w.heap.size := by
  unfold World.cell? at h
  split at h
  · rename_i hh; exact (Array.getElem?_eq_some_iff.1 hh).1
  · cases h

/-- A store into an owned list. -/
theorem Own.set {α : Type} {en : α → Value} {w : World} {L B : Nat} {v : Value} {xs : List α} (h : Own en w L B v xs) {b off cap n i : Nat} {y : α} (hv : v = .slice (some ⟨b, off, none⟩) n cap) (hi : i < xs.length) :
    Own en (w.setCell ⟨b, off + i, none⟩ (en y)) L B v (xs.set i y) := by
  obtain ⟨ao, cap', h1, h2, h3, hn, h4⟩ := h
  rw [hv] at h1
  simp only [Value.slice.injEq] at h1
  obtain ⟨rfl, rfl, rfl⟩ := h1
  refine ⟨some ⟨b, off, none⟩, cap, by rw [hv]; simp, by simpa using h2, h3, hn, fun j x hx => ?_⟩
  have hj : j < xs.length := by simpa using (List.getElem?_eq_some_iff.1 hx).1
  obtain ⟨x', hx'⟩ := get_of_lt hj
  obtain ⟨b', off', e1, e2, e3, e4, e5⟩ := h4 j x' hx'
  simp only [Option.some.injEq, Addr.mk.injEq, and_true] at e1
  obtain ⟨rfl, rfl⟩ := e1
  refine ⟨b, off, rfl, e2, e3, ?_, by rw [World.frozen?_setCell]; exact e5⟩
  by_cases hij : i = j
  · subst hij
    rw [List.getElem?_set_self hi] at hx
    cases hx
    exact World.cell?_setCell_same' _ _ _ (by rw [e4]; rfl)
  · rw [List.getElem?_set_ne hij] at hx
    rw [hx'] at hx
    cases hx
    rw [← e4]
    exact World.cell?_setCell_other _ _ _ _ (by first | (simp; omega) | (simp; exact fun h => hij h.symm) | simp [hij, Ne.symm hij])

/-- Another world below B reads the same old cells. -/
theorem cellOf {w w' : World} {B b o : Nat} {u : Value} (hb : Below B w w') (h : b < B) (hc : w.cell? ⟨b, o, none⟩ = some u) : w'.cell? ⟨b, o, none⟩ = some u :=
  (hb.cell (p := ⟨b, o, none⟩) h).trans hc

theorem row_form {w : World} {base size n : Nat} {e : TypeId} {v : Value} {xs : List Value} (h : w.ownsRow base e size v n xs) : ∃ ao cap, v = .slice ao n cap := by
  rcases h.2 with ⟨rfl, rfl⟩ | ⟨g, cap, cur, rfl, _⟩
  · exact ⟨none, 0, rfl⟩
  · exact ⟨_, _, rfl⟩
/-- What lies below B stays where something is appended to an owned row. -/
theorem below_append {B : Nat} {w wr w1 : World} {o : Obj} {e : TypeId} {size n : Nat} {v : Value} {xs : List Value} (hbl : Below B w wr) (hrow : wr.ownsRow B e size v n xs) (hg : (wr.alloc o).grownBy w1 v.ownBlock) (hB : B ≤ wr.heap.size) : Below B w w1 :=
  (hbl.alloc hB o).grown hg (by simp; omega) (fun k hk => (hrow.lt k hk).1)

/-- An argument that is a slice of strings. -/
theorem open_strs {H : Type} {enc : TypeId × Value → H} {P : Program} {w : World} {base : Nat} {t e : TypeId} {v : Value} {d : DataW H} {ps : List MemPlace}
    (ht : P.underlying t = some (.slice e)) (he : P.underlying e = some .string) (hc : P.cellsOf e = 1) (hval : Value.okWide P w .any base t v)
    (hd : DataW.Trod enc P w 0 (fun _ => true) true t v d ps) : ∃ ss : List ByteArray, Lst Value.string w w.heap.size v ss ∧ ∀ s ∈ ss, s.size ≤ maxLen := by
  obtain ⟨a0, len, cap, rfl⟩ := okWide_slice ht hval
  obtain ⟨fuel, hf⟩ := hd
  rcases open_strings ht he hc hf with ⟨hcs, _⟩ | ⟨a, len', cap', ss, hcs, _, hl, hm, hz, _, hcell, hsz⟩
  · simp [Value.cells] at hcs
    obtain ⟨rfl, rfl, rfl⟩ := hcs
    exact ⟨[], ⟨none, 0, rfl, by simp, by simp [maxLen], fun _ => rfl, fun i x hi => by simp at hi⟩, by simp⟩
  · simp [Value.cells] at hcs
    obtain ⟨rfl, rfl, rfl⟩ := hcs
    simp only [if_true] at hz
    refine ⟨ss.take len, ⟨some a, cap, by rw [List.length_take, Nat.min_eq_left (by omega)], by rw [List.length_take]; omega, hm, by simp, fun i x hi => ?_⟩, fun s hs => hsz s (List.mem_of_mem_take hs)⟩
    have hi2 : i < (ss.take len).length := (List.getElem?_eq_some_iff.1 hi).1
    rw [List.length_take] at hi2
    have h1 := hcell i (by omega)
    have h2 : ss.getD i ByteArray.empty = x := by
      rw [List.getElem?_take, if_pos (by omega)] at hi
      simp [List.getD, hi]
    rw [h2] at h1
    obtain ⟨b, off, spot⟩ := a
    have hspot : spot = none := by simpa [Addr.add] using World.cell?_spot (hcell 0 (by omega))
    subst hspot
    rw [Addr.add_lit] at h1
    exact ⟨b, off, rfl, cell_of_lt h1, h1⟩
end Go.Proofs.Ytoogofceoinniab
