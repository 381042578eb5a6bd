/- The specification's draw for a calibration. -/
import Derived.Test.YtjiaejempfhheaaNwP
namespace Go.Proofs.Ytjiaejempfhheaa
open Go.ChangeShapes Go.WideShapes Go.ChangeAt Go.RowKit Go.ChangeMaps
set_option linter.unusedSimpArgs false
set_option linter.unusedVariables false

set_option maxRecDepth 100000 in
set_option maxHeartbeats 1000000 in
theorem drawRec (w : World) (B : Nat) (v : Value) (h : CodeArg w B v) :
    Calls Try.prog 31 #[v] w fun e w' => ∃ (v' : Value) (xs : List GStation) (i c u : Int), e = .returned (.tuple #[v', .int .i64 i, .int .i64 c, .int .i64 u]) ∧ (-2000000 ≤ i ∧ i ≤ 2000000) ∧ (-2000000 ≤ c ∧ c ≤ 2000000) ∧ (-2000000 ≤ u ∧ u ≤ 2000000) ∧ DrSt w w' v' xs := by
  obtain ⟨h0, ao, n, cap, rfl, h2, h3⟩ := h
  have hcu := cur_new w B ao n cap h0 h2 h3
  have hbw : w.heap.size < (w.alloc (.cells #[.slice ao n cap, .int .i64 0, .int .u64 0] 75)).heap.size := by simp
  clear h3
  go_enter Try.func31, Try.ntmps31
  go_wp2_with fail
  refine (cur_stations _ B w.heap.size 0 hcu (by omega)).mono ?_
  rintro e w1 ⟨v1, xs, rfl, hl, hS⟩
  obtain ⟨g1, cap1, rfl⟩ := hS.form
  have HS1 := Lib.hid hS
  clear hS hcu
  go_wp2_with fail
  refine (cur_stationId hbw HS1.out hl (by omega)).mono ?_
  rintro e w2 ⟨i, rfl, hbi, hS⟩
  have HS2 := Lib.hid hS
  clear HS1 hS
  have y2 := HS2.out.cur.lt
  go_wp2_with fail
  refine (cur_pick _ B w.heap.size _ 24 (HS2.out.cur.alloc _) (by omega) (by omega) (by omega)).mono ?_
  rintro e w3 ⟨r2, rfl, hr0, hr1, hc, hg⟩
  have hl2 := (ints_lit w2 w.heap.size y2 3 5 [1, 77, 10000, 0, 10001]).grown hg
  have HS3 := Lib.hid ((HS2.out.alloc _).draw hbw hg hc)
  obtain ⟨q2, hq, hq2⟩ : ∃ q : Nat, r2.tdiv 11 = q ∧ q ≤ 2 := ⟨(r2 / 11).toNat, by rw [Int.tdiv_eq_ediv_of_nonneg hr0]; omega, by omega⟩
  clear HS2 hc hg
  go_wp2_with fail
  refine (cur_among _ B w.heap.size _ HS3.out.cur (by omega) _ _ (hl2.take (3 + q2) (by simp; omega)) (by simp; omega) (by simp; omega)).mono ?_
  rintro e w4 ⟨c, rfl, hx9, hc, hg⟩
  have hbc : -2000000 ≤ c ∧ c ≤ 2000000 := mem_take_all (P := fun x => -2000000 ≤ x ∧ x ≤ 2000000) (by decide) hx9
  have HS4 := Lib.hid (HS3.out.draw hbw hg hc)
  clear HS3 hc hg hq hx9 hl2 hr0 hr1 hq2
  have y4 := HS4.out.cur.lt
  go_wp2_with fail
  refine (cur_pick _ B w.heap.size _ 24 (HS4.out.cur.alloc _) (by omega) (by omega) (by omega)).mono ?_
  rintro e w5 ⟨r4, rfl, hr0, hr1, hc, hg⟩
  have hl4 := (ints_lit w4 w.heap.size y4 3 6 [0, 500, 700, 1000000, 1000001, -1]).grown hg
  have HS5 := Lib.hid ((HS4.out.alloc _).draw hbw hg hc)
  obtain ⟨q4, hq, hq2⟩ : ∃ q : Nat, r4.tdiv 11 = q ∧ q ≤ 2 := ⟨(r4 / 11).toNat, by rw [Int.tdiv_eq_ediv_of_nonneg hr0]; omega, by omega⟩
  clear HS4 hc hg
  go_wp2_with fail
  refine (cur_among _ B w.heap.size _ HS5.out.cur (by omega) _ _ (hl4.take (4 + q4) (by simp; omega)) (by simp; omega) (by simp; omega)).mono ?_
  rintro e w6 ⟨u, rfl, hx9, hc, hg⟩
  have hbu : -2000000 ≤ u ∧ u ≤ 2000000 := mem_take_all (P := fun x => -2000000 ≤ x ∧ x ≤ 2000000) (by decide) hx9
  have HS6 := Lib.hid (HS5.out.draw hbw hg hc)
  clear HS5 hc hg hq hx9 hl4 hr0 hr1 hq2
  go_wp2
  refine bodyPost_ret (v := .tuple #[.slice (some ⟨g1, 0, none⟩) xs.length cap1, .int .i64 i, .int .i64 c, .int .i64 u]) (by simp [results, Try.results31, go_sem]) rfl ?_
  exact ⟨_, xs, i, c, u, rfl, hbi, hbc, hbu, HS6.out.drawn hl⟩
end Go.Proofs.Ytjiaejempfhheaa
