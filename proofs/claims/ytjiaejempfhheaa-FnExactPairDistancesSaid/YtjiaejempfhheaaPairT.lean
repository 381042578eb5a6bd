/- The distances of all pairs: the program's sort. -/
import Derived.Test.YtjiaejempfhheaaPairR
import Derived.Test.YtjiaejempfhheaaCm3
import Derived.Test.YtjiaejempfhheaaSrt
namespace Go.Proofs.Ytjiaejempfhheaa
open Go.ChangeShapes Go.WideShapes Go.ChangeAt Go.RowKit Go.ChangeMaps Go.Sort Go.Shelf
set_option linter.unusedSimpArgs false
set_option linter.unusedVariables false

theorem grown_sort1 {α : Type} [Inhabited α] (enc : α → Value) (w : World) (g off m : Nat) (dk : Array α) (os : Array Obj) : w.grownBy (sortWorld enc w g off m dk os) (some g) := by
  unfold sortWorld
  refine ⟨rfl, rfl, rfl, by rw [size_grow]; simp [putRow, mapBlock, Sort.ahead], fun k hk hne => ?_⟩
  rw [heap_grow_old _ _ (by simp [putRow, mapBlock, Sort.ahead]; exact hk)]
  have : g ≠ k := fun e => hne (by rw [e])
  simp [putRow, mapBlock, Sort.ahead, Array.getElem?_modify, this]
theorem Bx.grownP {w w' : World} {row : Option Nat} {b : Nat} {cs : List Value} (h : Bx w b cs) (hg : w.grownBy w' row) (hne : some b ≠ row) : Bx w' b cs := h.block (hg.block b h.1.1 hne) hg.size
/-- Pairs in the order in which they are made. -/
def ascP (p q : GPair) : Prop := p.1.pId < q.1.pId ∨ (p.1.pId = q.1.pId ∧ p.2.pId < q.2.pId)
def atP (ol : List GPair) (h : 0 < ol.length) (i : Fin ol.length) : GPair := ol[i.1]
theorem finP_eq {ol : List GPair} (ha : ol.Pairwise ascP) (i j : Fin ol.length) (h1 : ¬ ltP ol[i.1] ol[j.1]) (h2 : ¬ ltP ol[j.1] ol[i.1]) : i = j := by
  have hp := List.pairwise_iff_getElem.1 ha
  rcases Nat.lt_trichotomy i.1 j.1 with q | q | q
  · have := hp i.1 j.1 i.2 j.2 q
    unfold ltP ascP at *
    omega
  · exact Fin.ext q
  · have := hp j.1 i.1 j.2 i.2 q
    unfold ltP ascP at *
    omega
def encF (bs : List Nat) {n : Nat} (i : Fin n) : Value := slV (bs.getD i.1 0)
def cfF (ol : List GPair) (i j : Fin ol.length) : Int := cmpP ol[i.1] ol[j.1]
theorem ltF_t {ol : List GPair} {i j : Fin ol.length} : ltOf (cfF ol) i j = true ↔ ltP ol[i.1] ol[j.1] := by
  unfold ltOf cfF; rw [decide_eq_true_eq]; exact cmpP_lt
theorem ltF_f {ol : List GPair} {i j : Fin ol.length} : ltOf (cfF ol) i j = false ↔ ¬ ltP ol[i.1] ol[j.1] := by
  rw [← ltF_t, Bool.not_eq_true]
theorem swoF (ol : List GPair) : SWO (ltOf (cfF ol)) where
  irrefl a := by rw [ltF_f]; unfold ltP; omega
  trans a b c h k := by rw [ltF_t] at *; unfold ltP at *; omega
  ntrans a b c h k := by rw [ltF_f] at *; unfold ltP at *; omega
theorem fin_get {n : Nat} [Inhabited (Fin n)] {i : Nat} (h : i < n) : ((List.finRange n).toArray[i]!) = ⟨i, h⟩ := by
  rw [getElem!_pos (List.finRange n).toArray i (by simpa using h)]
  simp
set_option maxRecDepth 100000 in
set_option maxHeartbeats 1000000 in
/-- The sort of the pairs' rows. -/
theorem sortPair {w : World} {L g n cap : Nat} {ol : List GPair} {bs : List Nat} (hn : 0 < n) (hn2 : n ≤ 110) (hol : ol.length = n) (ha : ol.Pairwise ascP) (hR : RowsP w L g ol bs)
    (hrow : w.ownsRow L 27 1 (.slice (some ⟨g, 0, none⟩) n cap) n (bs.map slV)) (hLw : L ≤ w.heap.size) :
    Calls Try.prog 93 #[.slice (some ⟨g, 0, none⟩) n cap, .func (.func 94) #[] #[]] w fun e w' => e = .returned (.tuple #[]) ∧ ∃ (ol' : List GPair) (bs' : List Nat), ol'.Perm ol ∧ ol'.Pairwise ltP ∧ RowsP w' L g ol' bs' ∧ Own id w' L w'.heap.size (.slice (some ⟨g, 0, none⟩) n cap) (bs'.map slV) ∧ Below L w w' := by
  subst hol
  letI : Inhabited (Fin ol.length) := ⟨⟨0, hn⟩⟩
  have hbl := hR.len
  have hOw : Own id w L w.heap.size (.slice (some ⟨g, 0, none⟩) ol.length cap) (bs.map slV) := Own.of_row (by simpa using hrow)
  obtain ⟨hL, hblk⟩ := hrow.lt g rfl
  have hbsat : ∀ i : Fin ol.length, bs[i.1]? = some (bs.getD i.1 0) := fun i => by
    obtain ⟨b, hb⟩ := get_of_lt (l := bs) (k := i.1) (by rw [hbl]; exact i.2)
    rw [hb]; simp [List.getD, hb]
  have hbx : ∀ i : Fin ol.length, Bx w (bs.getD i.1 0) (cellsP ol[i.1]) := fun i => hR.at_ i.1 _ _ (hbsat i) (List.getElem?_eq_getElem i.2)
  have hbg : ∀ i : Fin ol.length, bs.getD i.1 0 ≠ g := fun i e => hR.ne (e ▸ List.mem_of_getElem? (hbsat i))
  have hH : Holds (encF bs) w g 0 (List.finRange ol.length).toArray := by
    intro j hj
    have hj' : j < ol.length := by simpa using hj
    rw [fin_get hj']
    obtain ⟨ao, c, e1, _, _, _, h4⟩ := hOw
    obtain ⟨b', off', e2, _, _, e3, e4⟩ := h4 j (slV (bs.getD j 0)) (by rw [List.getElem?_map, hbsat ⟨j, hj'⟩]; rfl)
    subst e2
    simp only [Value.slice.injEq, Option.some.injEq, Addr.mk.injEq, and_true] at e1
    obtain ⟨⟨rfl, rfl⟩, -, -⟩ := e1
    exact ⟨e3, e4⟩
  have hC : CmpLays1 Try.prog 94 #[] (encF bs) (cfF ol) g 0 (List.finRange ol.length).toArray.size w := by
    intro m os dk _ x y
    have G := grown_sort1 (encF bs (n := ol.length)) w g 0 m dk os
    have hx := (hbx x).grownP G (fun e => hbg x (Option.some.inj e))
    have hy := (hbx y).grownP G (fun e => hbg y (Option.some.inj e))
    exact cloPair ol[x.1] ol[y.1] _ _ _ hx hy
  have hS := Any.slices_SortFunc_total Try.sort1_93 (encF bs) (fun _ => rfl) (cfF ol) (swoF ol) 94 #[] g 0 cap (List.finRange ol.length).toArray w (enters_of Try.func94 (by kernel_rfl) rfl) hC hH hblk (by simp; omega)
    (fun x y h1 h2 => finP_eq ha x y (ltF_f.1 h1) (ltF_f.1 h2))
  have hsz : (List.finRange ol.length).toArray.size = ol.length := by simp
  rw [hsz] at hS
  refine hS.mono ?_
  rintro e w' ⟨rfl, m, os, rfl⟩
  have hp : (((List.finRange ol.length).toArray.toList).mergeSort fun x y => !(ltOf (cfF ol)) y x).Perm (List.finRange ol.length) := by
    have := List.mergeSort_perm (List.finRange ol.length) (fun x y => !(ltOf (cfF ol)) y x)
    simpa using this
  have hpw : (((List.finRange ol.length).toArray.toList).mergeSort fun x y => !(ltOf (cfF ol)) y x).Pairwise (fun a b => (!(ltOf (cfF ol)) b a) = true) := by
    refine List.pairwise_mergeSort (fun a b c p q => ?_) (fun a b => ?_) _
    · rw [Bool.not_eq_true', ltF_f] at *; unfold ltP at *; omega
    · rw [Bool.or_eq_true, Bool.not_eq_true', Bool.not_eq_true', ltF_f, ltF_f]; unfold ltP; omega
  generalize hsl : ((List.finRange ol.length).toArray.toList).mergeSort (fun x y => !(ltOf (cfF ol)) y x) = sl at *
  have hlen : sl.length = ol.length := by rw [hp.length_eq]; simp
  have G := grown_sort1 (encF bs (n := ol.length)) w g 0 m sl.toArray os
  have hK := holds_sortWorld (encF bs) w g 0 m (List.finRange ol.length).toArray sl.toArray os hblk hH (by rw [hsz]; simpa using hlen)
  have e1 : (List.finRange ol.length).map (fun i => ol[i.1]) = ol := by
    apply List.ext_getElem (by simp)
    intro i h1 h2
    simp
  have e2 : (List.finRange ol.length).map (fun i => bs.getD i.1 0) = bs := by
    apply List.ext_getElem (by simp [hbl])
    intro i h1 h2
    simp only [List.getElem_map, List.getElem_finRange, List.getD, List.getElem?_eq_getElem h2, Option.getD_some, Fin.val_cast]
  have p1 : (sl.map fun i => ol[i.1]).Perm ol := by have := hp.map (fun i : Fin ol.length => ol[i.1]); rwa [e1] at this
  have p2 : (sl.map fun i => bs.getD i.1 0).Perm bs := by have := hp.map (fun i : Fin ol.length => bs.getD i.1 0); rwa [e2] at this
  have hnd : sl.Pairwise (fun a b => a ≠ b) := hp.symm.pairwise (R := fun a b => a ≠ b) (List.nodup_finRange _) (fun h => Ne.symm h)
  refine ⟨rfl, _, _, p1, ?_, ⟨by simp, p2.nodup_iff.2 hR.nodup, fun b hb => hR.low b (p2.subset hb), fun hb => hR.ne (p2.subset hb), fun i b p h1 h2 => ?_⟩, ?_, Below.grown (Below.refl L w) G hLw (fun q hq => by cases hq; exact hL)⟩
  · rw [List.pairwise_map]
    refine (List.Pairwise.and hpw hnd).imp ?_
    rintro a b ⟨h1, h2⟩
    rw [Bool.not_eq_true', ltF_f] at h1
    rcases Classical.em (ltP ol[a.1] ol[b.1]) with q | q
    · exact q
    · exact absurd (finP_eq ha a b q h1) h2
  · rw [List.getElem?_map] at h1 h2
    obtain ⟨i1, hi1, rfl⟩ := Option.map_eq_some_iff.1 h1
    rw [hi1] at h2
    cases h2
    exact (hbx i1).grownP G (fun e => hbg i1 (Option.some.inj e))
  · obtain ⟨ao, c, f1, f2, f3, f4, -⟩ := hOw
    simp only [Value.slice.injEq] at f1
    obtain ⟨rfl, -, rfl⟩ := f1
    have hl2 : ((sl.map fun i => bs.getD i.1 0).map slV).length = ol.length := by simp [hlen]
    refine ⟨_, _, by rw [hl2], by rw [hl2]; rw [List.length_map, hbl] at f2; exact f2, f3, by simp, fun i x hx => ?_⟩
    rw [List.getElem?_map, List.getElem?_map] at hx
    obtain ⟨b, hb, rfl⟩ := Option.map_eq_some_iff.1 hx
    obtain ⟨k, hk, rfl⟩ := Option.map_eq_some_iff.1 hb
    have hk' := List.getElem?_eq_some_iff.1 hk
    have h3 := hK i (by simpa using hk'.1)
    rw [getElem!_pos sl.toArray i (by simpa using hk'.1)] at h3
    refine ⟨g, 0, rfl, hL, lt_sortWorld _ w g 0 m _ os hblk, ?_, ?_⟩
    · rw [h3.1]; simp [hk'.2, encF]
    · exact h3.2
end Go.Proofs.Ytjiaejempfhheaa
