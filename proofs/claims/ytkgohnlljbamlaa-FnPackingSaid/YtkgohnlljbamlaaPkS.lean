/- Packing: differences and sums, the specification. -/
import Derived.Test.YtkgohnlljbamlaaPkL
import Derived.Lib.QuietBelow
namespace Go.Proofs.Ytkgohnlljbamlaa
open Go.ChangeShapes Go.WideShapes Go.ChangeAt Go.RowKit Go.ChangeMaps
set_option linter.unusedSimpArgs false
set_option linter.unusedVariables false

theorem prv_bd {xs : List Int} {M : Int} (h : ∀ x ∈ xs, -M ≤ x ∧ x ≤ M) (hM : 0 ≤ M) (k : Nat) : -M ≤ prv 0 xs k ∧ prv 0 xs k ≤ M := by
  cases k with
  | zero => simp only [prv]; omega
  | succ k =>
    simp only [prv, List.getD]
    cases hx : xs[k]? with
    | none => simp; omega
    | some x => simpa using h x (List.mem_of_getElem? hx)
theorem prv_succ {xs : List Int} {k : Nat} {x : Int} (h : xs[k]? = some x) : prv 0 xs (k + 1) = x := by simp [prv, List.getD, h]

set_option maxRecDepth 100000 in
set_option maxHeartbeats 1000000 in
theorem specDiffs (xs : List Int) (v : Value) (w : World) (B : Nat) (h : Lst (Value.int .i64) w B v xs) (hB : B ≤ w.heap.size) (hn : xs.length ≤ 1048576) (hx : ∀ x ∈ xs, -1000000000 ≤ x ∧ x ≤ 1000000000) :
    Calls Try.prog 53 #[v] w fun e w' => ∃ v', e = .returned v' ∧ w'.ownsRow w.heap.size 3 1 v' xs.length ((dif xs).map (Value.int .i64)) ∧ Below w.heap.size w w' := by
  obtain ⟨ti, hi, hz0, hz1, hz2⟩ := info_parts infoInt
  have hrow0 := row_empty w (base := w.heap.size) 3 1 (Nat.le_refl _)
  have hb0 : Below w.heap.size w (w.alloc (.cells #[] 3)) := (Below.refl _ _).alloc (Nat.le_refl _) _
  obtain ⟨ao, cap, rfl, hcap, hmax, hnn, hc⟩ := h
  unfold maxLen at hmax
  have HX := Lib.hid hx
  have HC := Lib.hid hc
  clear hc hnn hx
  go_enter Try.func53, Try.ntmps53
  go_wp2
  go_loopw [3, 4, 5] (fun o l i wr => ∃ (k : Nat) (v : Value), k ≤ xs.length ∧ i = .int .i64 k ∧ l = .int .i64 (prv 0 xs k) ∧ o = v ∧ wr.ownsRow w.heap.size 3 1 v k (((dif xs).take k).map (Value.int .i64)) ∧ (∃ ao cap, v = .slice ao k cap) ∧ Below w.heap.size w wr)
    (fun _ _ i _ => xs.length - (intOf i).toNat)
  case atStart => exact ⟨0, _, Nat.zero_le _, rfl, rfl, rfl, by simpa using hrow0, ⟨some ⟨w.heap.size, 0, none⟩, 0, rfl⟩, hb0⟩
  case round =>
    obtain ⟨k, _, hk, rfl, rfl, rfl, hrow, ⟨aoo, capo, rfl⟩, hbl⟩ := hrel
    have hsz := hbl.size
    obtain ⟨p1, p2⟩ := prv_bd HX.out (by omega) k
    by_cases hlt : k < xs.length
    case neg =>
      obtain rfl : k = xs.length := by omega
      rw [show (dif xs).take xs.length = dif xs from List.take_of_length_le (by rw [dif_len]; omega)] at hrow
      go_wp2
      go_ret
      exact ⟨_, rfl, hrow, hbl⟩
    obtain ⟨x, hx⟩ := get_of_lt hlt
    obtain ⟨bx1, bx2⟩ := HX.out x (List.mem_of_getElem? hx)
    obtain ⟨b, off, rfl, hb, hcx⟩ := HC.out k x hx
    have hcx' := cellOf hbl (by omega) hcx
    have HP := Lib.hid (prv_succ hx)
    have HT := Lib.hid (take_snoc (dif_get hx))
    have hi0 : (0 : Int) ≤ (k : Int) := by omega
    have hi1 : (k : Int) < (xs.length : Int) := by omega
    have s1 : IntKind.i64.wrap (x - prv 0 xs k) = x - prv 0 xs k := IntWalk.i64_in _ (by omega)
    clear hx hcx
    generalize prv 0 xs k = p at *
    generalize (dif xs).take k = cs at *
    go_wp2_with (at_builtin; refine wpList_append_own _ rfl _ _ 22 rfl (w.heap.size) 3 ti (.int .i64 0) 1 8 Try.underlying22 hi hz0 hz1 hz2 rfl (by decide) _ k (cs.map (Value.int .i64)) rfl (hrow.alloc _) ⟨wr.heap.size, 0, none⟩ 1 1 [.int .i64 (x - p)] rfl rfl (cell_one_new _ _ _) (by simp [Value.oneCell']) (by unfold maxLen; omega) (by omega) (by first | omega | (simp; done) | (simp; omega)) ?_; intro v' w3 hown' hgrow _; have b3 := below_app2 hrow hgrow hsz (Nat.le_refl _); have hcx3 := cellOf b3 (by omega) hcx')
    have hrow3 : w3.ownsRow w.heap.size 3 1 v' (k + 1) (((dif xs).take (k + 1)).map (Value.int .i64)) := by rw [HT.out]; simpa using hown'
    obtain ⟨a3, c3, rfl⟩ := row_form hrow3
    clear hown' hgrow hrow
    go_wp2
    go_roundw
    case rel => exact ⟨k + 1, _, by omega, by go_num, by rw [HP.out], rfl, hrow3, ⟨_, _, rfl⟩, hbl.trans b3⟩
    case measure => simp [intOf]; omega

set_option maxHeartbeats 400000 in
theorem specDif (xs : List Int) (v : Value) (w : World) (B : Nat) (h : Lst (Value.int .i64) w B v xs) (hB : B ≤ w.heap.size) (hn : xs.length ≤ 1048576) :
    Calls Try.prog 15 #[v] w fun e w' => ∃ v', e = .returned (.tuple #[v', .bool (okL xs)]) ∧ Own (Value.int .i64) w' w.heap.size w'.heap.size v' (resDif xs) ∧ Below w.heap.size w w' := by
  cases hk : okL xs with
  | false =>
    have e2 : resDif xs = [] := by unfold resDif; rw [hk]; rfl
    have C := Lib.hid (l2SamplesB xs v w B false h hk)
    rw [e2]
    clear e2 hk
    go_enter Try.func15, Try.ntmps15
    go_wp2_with fail
    refine C.out.mono ?_
    rintro e w1 ⟨rfl, rfl⟩
    go_wp2
    go_ret2
    exact ⟨_, rfl, own_empty _ _ (Nat.le_refl _), (Below.refl _ _).alloc (Nat.le_refl _) _⟩
  | true =>
    have e2 : resDif xs = dif xs := by unfold resDif; rw [hk]; rfl
    obtain ⟨gx, gn⟩ := okL_yes hk
    have C := Lib.hid (l2SamplesB xs v w B true h hk)
    have D := Lib.hid (specDiffs xs v w B h hB hn (fun x hx => by have := gx x hx; omega))
    rw [e2]
    clear e2 hk gx
    go_enter Try.func15, Try.ntmps15
    go_wp2_with fail
    refine C.out.mono ?_
    rintro e w1 ⟨rfl, rfl⟩
    go_wp2_with fail
    refine D.out.mono ?_
    rintro e w2 ⟨v2, rfl, hrow, hb⟩
    obtain ⟨a2, c2, rfl⟩ := row_form hrow
    go_wp2
    go_ret2
    have hl := dif_len xs
    rw [← hl] at hrow ⊢
    exact ⟨_, rfl, Own.of_row hrow, hb⟩
end Go.Proofs.Ytkgohnlljbamlaa
