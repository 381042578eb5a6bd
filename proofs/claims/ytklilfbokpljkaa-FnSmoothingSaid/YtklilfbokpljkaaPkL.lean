/- Packing: differences of samples, the program. -/
import Derived.Test.YtklilfbokpljkaaPkF
import Derived.Test.YtklilfbokpljkaaCln
import Derived.Laws.CopyOwn
import Derived.StillTailTactics
namespace Go.Proofs.Ytklilfbokpljkaa
open Go.ChangeShapes Go.WideShapes Go.ChangeAt Go.RowKit Go.ChangeMaps
set_option linter.unusedSimpArgs false
set_option linter.unusedVariables false

theorem row_heap {w : World} {base g n : Nat} {e : TypeId} {xs : List Value} (h : w.ownsRow base e 1 (.slice (some ⟨g, 0, none⟩) n n) n xs) : w.heap[g]? = some (.cells xs.toArray e (0, 0)) := by
  rcases h.2 with ⟨h', _⟩ | ⟨g', cap', cur, h', hb, hg, hnc, hcm, hcs, htake⟩
  · simp at h'
  · simp only [Value.slice.injEq, Option.some.injEq, Addr.mk.injEq, and_true, true_and] at h'
    obtain ⟨rfl, rfl⟩ := h'
    rw [hg, ← htake, List.take_of_length_le (by simp [hcs])]
theorem heap_row {w : World} {base g n : Nat} {e : TypeId} {xs : List Value} (h : w.heap[g]? = some (.cells xs.toArray e (0, 0))) (hb : base ≤ g) (hl : xs.length = n) (hm : n ≤ maxLen) : w.ownsRow base e 1 (.slice (some ⟨g, 0, none⟩) n n) n xs :=
  ⟨by simp [hl], .inr ⟨g, n, xs.toArray, rfl, hb, h, Nat.le_refl _, hm, by simp [hl], by simp [← hl, List.take_of_length_le]⟩⟩
/-- An owned row that lies in block g. -/
theorem own_block {w : World} {L g n cap : Nat} {e : TypeId} {xs : List Int} (h : w.ownsRow L e 1 (.slice (some ⟨g, 0, none⟩) n cap) n (xs.map (Value.int .i64))) : Own (Value.int .i64) w L w.heap.size (.slice (some ⟨g, 0, none⟩) n cap) xs := Own.of_row h
/-- What is known of a source for copy. -/
theorem src_copy {w : World} {B : Nat} {ao : Option Addr} {n cap : Nat} {xs : List Int} (h : Lst (Value.int .i64) w B (.slice ao n cap) xs) (m : Nat) :
    0 < ((xs.take m).map (Value.int .i64)).length → ∃ ad, ao = some ad ∧ ∀ j v, ((xs.take m).map (Value.int .i64))[j]? = some v → w.cell? (ad.add j) = some v := by
  intro h0
  obtain ⟨ao', cap', hv, h1, h2, h3, h4⟩ := h
  simp only [Value.slice.injEq] at hv
  obtain ⟨rfl, rfl, rfl⟩ := hv
  have hx : 0 < xs.length := by
    rcases xs with _ | ⟨x, xs⟩
    · simp at h0
    · simp
  obtain ⟨x, hx0⟩ := get_of_lt hx
  obtain ⟨b, off, rfl, _, _⟩ := h4 0 x hx0
  refine ⟨_, rfl, fun j v hj => ?_⟩
  obtain ⟨y, hy, rfl⟩ := map_get hj
  rw [List.getElem?_take] at hy
  split at hy
  · obtain ⟨b', off', e, _, hc⟩ := h4 j y hy
    cases e
    rw [Addr.add_lit]; exact hc
  · cases hy
def resDif (xs : List Int) : List Int := if okL xs then dif xs else []
theorem resDif_len (xs : List Int) (h : xs.length ≤ 1048576) : (resDif xs).length ≤ 1048576 := by
  unfold resDif
  split
  · rw [dif_len]; exact h
  · simp
/-- The samples from place k on turned to their differences. -/
def halfD (xs : List Int) (k : Nat) : List Int := xs.take k ++ (dif xs).drop k
theorem halfD_len (xs : List Int) (k : Nat) : (halfD xs k).length = xs.length := by simp [halfD, dif_len]; omega
theorem halfD_end (xs : List Int) : halfD xs xs.length = xs := by unfold halfD; rw [List.take_length, List.drop_of_length_le (by rw [dif_len]; omega), List.append_nil]
theorem halfD_start (xs : List Int) {k : Nat} (h : k ≤ 1) : halfD xs k = dif xs := by
  match k, h with
  | 0, _ => simp [halfD]
  | 1, _ =>
    cases xs with
    | nil => rfl
    | cons x xs => simp [halfD, dif, difF]
theorem halfD_get {xs : List Int} {k j : Nat} (h : j < k) (hk : k ≤ xs.length) : (halfD xs k)[j]? = xs[j]? := by
  unfold halfD
  rw [List.getElem?_append_left (by simp; omega), List.getElem?_take, if_pos h]
theorem halfD_set {xs : List Int} {k : Nat} {x y : Int} (hk : k + 2 ≤ xs.length) (hx : xs[k + 1]? = some x) (hy : xs[k]? = some y) : (halfD xs (k + 2)).set (k + 1) (x - y) = halfD xs (k + 1) := by
  have hd := dif_get hx
  simp only [prv, List.getD, hy, Option.getD_some] at hd
  apply List.ext_getElem?
  intro j
  by_cases hj : j = k + 1
  · subst hj
    rw [List.getElem?_set_self (by rw [halfD_len]; omega)]
    unfold halfD
    rw [List.getElem?_append_right (by simp; omega), List.getElem?_drop]
    simp only [List.length_take]
    rw [show k + 1 + (k + 1 - min (k + 1) xs.length) = k + 1 by omega, hd]
  · rw [List.getElem?_set_ne (fun e => hj e.symm)]
    unfold halfD
    by_cases hlt : j < k + 1
    · rw [List.getElem?_append_left (by simp; omega), List.getElem?_append_left (by simp; omega), List.getElem?_take, List.getElem?_take, if_pos (by omega), if_pos hlt]
    · rw [List.getElem?_append_right (by simp; omega), List.getElem?_append_right (by simp; omega), List.getElem?_drop, List.getElem?_drop]
      simp only [List.length_take]
      congr 1; omega

end Go.Proofs.Ytklilfbokpljkaa
