/- The specification's draws of chapter 5. -/
import Derived.Test.YtklilfbokpljkacDrK
namespace Go.Proofs.Ytklilfbokpljkac
open Go.ChangeShapes Go.WideShapes Go.ChangeAt Go.RowKit Go.ChangeMaps
set_option linter.unusedSimpArgs false
set_option linter.unusedVariables false
set_option linter.unusedSimpArgs false
set_option linter.unusedVariables false

/-- A track as a draw gives it. -/
structure DrTk (w w' : World) (v : Value) (xs : List GClockMark) : Prop where
  lst : ClockMarkL w' w'.heap.size v xs
  len : 1 ≤ xs.length ∧ xs.length ≤ 11
  bd : ∀ s ∈ xs, BdM s
  below : Below w.heap.size w w'
theorem own_drew {w w' : World} {L B b : Nat} {v : Value} {xs : List GClockMark} (h : ClockMarkO w L B v xs) (hg : w.grownBy w' (some b)) (hb : b < L) : ClockMarkO w' L B v xs :=
  OwnK.kept h hg.size fun i h1 _ h3 => hg.block i h3 (by intro e; have := Option.some.inj e; omega)
theorem bds_szM {xs : List GClockMark} (h : xs.length ≤ 11) : szsClockMark xs ≤ 1048576 := by rw [szsClockMark_split]; omega
set_option maxRecDepth 100000 in
set_option maxHeartbeats 1000000 in
theorem drawIsT (w : World) (B : Nat) (v : Value) (h : CodeArg w B v) :
    Calls Try.prog 102 #[v] w fun e w' => ∃ (v' : Value) (xs : List GClockMark), e = .returned v' ∧ DrTk w w' v' xs := by
  obtain ⟨h0, ao, n, cap, rfl, h2, h3⟩ := h
  have hcu := cur_new w B ao n cap h0 h2 h3
  have hbw : w.heap.size < (w.alloc (.cells #[.slice ao n cap, .int .i64 0, .int .u64 0] 87)).heap.size := by simp
  clear h3
  go_enter Try.func102, Try.ntmps102
  go_wp2_with fail
  refine (cur_track _ B w.heap.size 0 hcu (by omega)).mono ?_
  rintro e w1 ⟨v1, xs, rfl, hl, hbd, hO, hc, hg⟩
  have HO := Lib.hid (hO.lst)
  obtain ⟨a1, c1, rfl⟩ := hO.form
  clear hO
  go_wp2
  go_ret
  exact ⟨_, xs, rfl, HO.out, hl, hbd, grown_below hg⟩
set_option maxRecDepth 100000 in
set_option maxHeartbeats 1000000 in
theorem drawSpan (w : World) (B : Nat) (v : Value) (h : CodeArg w B v) :
    Calls Try.prog 41 #[v] w fun e w' => ∃ (v' : Value) (xs : List GClockMark), e = .returned v' ∧ DrTk w w' v' xs := by
  have C := Lib.hid (drawIsT w B v h)
  obtain ⟨h0, ao, n, cap, rfl, h2, h3⟩ := h
  clear h3
  go_enter Try.func41, Try.ntmps41
  go_wp2_with fail
  refine C.out.mono ?_
  rintro e w1 ⟨v1, xs, rfl, hD⟩
  have HD := Lib.hid hD
  obtain ⟨a1, c1, rfl⟩ := hD.lst.form
  clear hD
  go_wp2
  go_ret
  exact ⟨_, xs, rfl, HD.out⟩
set_option maxRecDepth 100000 in
set_option maxHeartbeats 1000000 in
theorem drawWD (w : World) (B : Nat) (v : Value) (h : CodeArg w B v) :
    Calls Try.prog 71 #[v] w fun e w' => ∃ (v' : Value) (xs : List GClockMark), e = .returned v' ∧ DrTk w w' v' xs := by
  have C := Lib.hid (drawIsT w B v h)
  obtain ⟨h0, ao, n, cap, rfl, h2, h3⟩ := h
  clear h3
  go_enter Try.func71, Try.ntmps71
  go_wp2_with fail
  refine C.out.mono ?_
  rintro e w1 ⟨v1, xs, rfl, hD⟩
  have HD := Lib.hid hD
  obtain ⟨a1, c1, rfl⟩ := hD.lst.form
  clear hD
  go_wp2
  go_ret
  exact ⟨_, xs, rfl, HD.out⟩
set_option maxRecDepth 100000 in
set_option maxHeartbeats 1000000 in
theorem drawStp (w : World) (B : Nat) (v : Value) (h : CodeArg w B v) :
    Calls Try.prog 45 #[v] w fun e w' => ∃ (v' : Value) (xs : List GClockMark) (c : Int), e = .returned (.tuple #[v', .int .i64 c]) ∧ (-2000000 ≤ c ∧ c ≤ 2000000) ∧ DrTk w w' v' xs := by
  obtain ⟨h0, ao, n, cap, rfl, h2, h3⟩ := h
  have hcu := cur_new w B ao n cap h0 h2 h3
  have hbw : w.heap.size < (w.alloc (.cells #[.slice ao n cap, .int .i64 0, .int .u64 0] 87)).heap.size := by simp
  clear h3
  go_enter Try.func45, Try.ntmps45
  go_wp2_with fail
  refine (cur_track _ B w.heap.size 0 hcu (by omega)).mono ?_
  rintro e w1 ⟨v1, xs, rfl, hl, hbd, hO, hc1, hg1⟩
  have HO1 := Lib.hid hO
  obtain ⟨a1, c1, rfl⟩ := hO.form
  clear hO hcu
  have y1 := hc1.lt
  go_wp2_with fail
  refine (cur_pick _ B w.heap.size _ 24 (hc1.alloc _) (by omega) (by omega) (by omega)).mono ?_
  rintro e w2 ⟨r1, rfl, hr0, hr1, hc2, hg2⟩
  have hl1 := (ints_lit w1 w.heap.size y1 3 6 [0, 1, 2, 1000000, -1, 1000001]).grown hg2
  have HO2 := Lib.hid (own_drew (HO1.out.alloc (.cells #[.int .i64 0, .int .i64 1, .int .i64 2, .int .i64 1000000, .int .i64 (-1), .int .i64 1000001] 3)) hg2 hbw)
  have G2 := hg1.trans ((grown_alloc w1 _ _).trans hg2)
  have z12 : w1.heap.size ≤ w2.heap.size := by have := hg2.size; simp at this; omega
  obtain ⟨q1, hq, hq2⟩ : ∃ q : Nat, r1.tdiv 11 = q ∧ q ≤ 2 := ⟨(r1 / 11).toNat, by rw [Int.tdiv_eq_ediv_of_nonneg hr0]; omega, by omega⟩
  clear HO1 hg1 hg2 hc1
  go_wp2_with fail
  refine (cur_among _ B w.heap.size _ hc2 (by omega) _ _ (hl1.take (4 + q1) (by simp; omega)) (by simp; omega) (by simp; omega)).mono ?_
  rintro e w3 ⟨c, rfl, hx9, hc3, hg3⟩
  have hbc : -2000000 ≤ c ∧ c ≤ 2000000 := mem_take_all (P := fun x => -2000000 ≤ x ∧ x ≤ 2000000) (by decide) hx9
  have G3 := G2.trans hg3
  have HO3 := Lib.hid ((own_drew HO2.out hg3 hbw).lst.mono (Nat.le_trans z12 hg3.size))
  clear HO2 hc2 hc3 hg3 hq hx9 hl1 hr0 hr1 hq2
  go_wp2
  go_ret2
  exact ⟨_, xs, c, rfl, hbc, HO3.out, hl, hbd, grown_below G3⟩
set_option maxRecDepth 100000 in
set_option maxHeartbeats 1000000 in
theorem drawDrp (w : World) (B : Nat) (v : Value) (h : CodeArg w B v) :
    Calls Try.prog 66 #[v] w fun e w' => ∃ (v' : Value) (xs : List GClockMark) (c : Int), e = .returned (.tuple #[v', .int .i64 c]) ∧ (-2000000 ≤ c ∧ c ≤ 2000000) ∧ DrTk w w' v' xs := by
  obtain ⟨h0, ao, n, cap, rfl, h2, h3⟩ := h
  have hcu := cur_new w B ao n cap h0 h2 h3
  have hbw : w.heap.size < (w.alloc (.cells #[.slice ao n cap, .int .i64 0, .int .u64 0] 87)).heap.size := by simp
  clear h3
  go_enter Try.func66, Try.ntmps66
  go_wp2_with fail
  refine (cur_track _ B w.heap.size 0 hcu (by omega)).mono ?_
  rintro e w1 ⟨v1, xs, rfl, hl, hbd, hO, hc1, hg1⟩
  have HO1 := Lib.hid hO
  obtain ⟨a1, c1, rfl⟩ := hO.form
  clear hO hcu
  have y1 := hc1.lt
  go_wp2_with fail
  refine (cur_pick _ B w.heap.size _ 24 (hc1.alloc _) (by omega) (by omega) (by omega)).mono ?_
  rintro e w2 ⟨r1, rfl, hr0, hr1, hc2, hg2⟩
  have hl1 := (ints_lit w1 w.heap.size y1 3 6 [0, 1, 3, 1000, -1, 1001]).grown hg2
  have HO2 := Lib.hid (own_drew (HO1.out.alloc (.cells #[.int .i64 0, .int .i64 1, .int .i64 3, .int .i64 1000, .int .i64 (-1), .int .i64 1001] 3)) hg2 hbw)
  have G2 := hg1.trans ((grown_alloc w1 _ _).trans hg2)
  have z12 : w1.heap.size ≤ w2.heap.size := by have := hg2.size; simp at this; omega
  obtain ⟨q1, hq, hq2⟩ : ∃ q : Nat, r1.tdiv 11 = q ∧ q ≤ 2 := ⟨(r1 / 11).toNat, by rw [Int.tdiv_eq_ediv_of_nonneg hr0]; omega, by omega⟩
  clear HO1 hg1 hg2 hc1
  go_wp2_with fail
  refine (cur_among _ B w.heap.size _ hc2 (by omega) _ _ (hl1.take (4 + q1) (by simp; omega)) (by simp; omega) (by simp; omega)).mono ?_
  rintro e w3 ⟨c, rfl, hx9, hc3, hg3⟩
  have hbc : -2000000 ≤ c ∧ c ≤ 2000000 := mem_take_all (P := fun x => -2000000 ≤ x ∧ x ≤ 2000000) (by decide) hx9
  have G3 := G2.trans hg3
  have HO3 := Lib.hid ((own_drew HO2.out hg3 hbw).lst.mono (Nat.le_trans z12 hg3.size))
  clear HO2 hc2 hc3 hg3 hq hx9 hl1 hr0 hr1 hq2
  go_wp2
  go_ret2
  exact ⟨_, xs, c, rfl, hbc, HO3.out, hl, hbd, grown_below G3⟩
set_option maxRecDepth 100000 in
set_option maxHeartbeats 1000000 in
theorem cur_shown5 (w : World) (B b k : Nat) (v : Value) (xs : List GClockMark) (h : Cur w B b k) (hk : k ≤ 800000) (L : Nat) (hL : b < L) (ho : ClockMarkO w L w.heap.size v xs) (hl : 1 ≤ xs.length ∧ xs.length ≤ 11) (hbd : ∀ s ∈ xs, BdM s) :
    Calls Try.prog 94 #[.pointer (some ⟨b, 0, none⟩), v] w fun e w' => ∃ c : Int, e = .returned (.int .i64 c) ∧ (-3000000 ≤ c ∧ c ≤ 3000000) ∧ Cur w' B b (k + 8) ∧ w.grownBy w' (some b) := by
  obtain ⟨a1, c1, rfl⟩ := ho.form
  have HO := Lib.hid ho
  have hbw := h.lt
  clear ho
  go_enter Try.func94, Try.ntmps94
  go_wp2_with fail
  refine (cur_pick _ B b k (xs.length : Int) h (by omega) (by omega) (by omega)).mono ?_
  rintro e w1 ⟨r, rfl, hr0, hr1, hc1, hg1⟩
  obtain ⟨q, rfl⟩ : ∃ q : Nat, r = q := ⟨r.toNat, by omega⟩
  obtain ⟨y, hy⟩ := get_of_lt (l := xs) (k := q) (by omega)
  have hyb := hbd y (List.mem_of_getElem? hy)
  have HO1 := own_drew HO.out hg1 hL
  obtain ⟨ao, cap, e9, -, -, -, hcc⟩ := HO1
  simp only [Value.slice.injEq, true_and] at e9
  obtain ⟨rfl, rfl⟩ := e9
  obtain ⟨g, off, rfl, hgL, -, hgw, hcell, -⟩ := hcc q y hy
  have y0 : w1.cell? ⟨g, off + q * 2, none⟩ = some (.int .i64 y.pShown) := hcell 0 _ rfl
  have y1 : w1.cell? ⟨g, off + q * 2 + 1, none⟩ = some (.int .i64 y.pTrue) := hcell 1 _ rfl
  unfold BdM at hyb
  have bx := Bx.new w1 [.int .i64 y.pShown, .int .i64 y.pTrue] 50
  have hc2 := hc1.alloc (.cells #[.int .i64 y.pShown, .int .i64 y.pTrue] 50)
  have hg2 := hg1.trans (grown_alloc w1 (.cells #[.int .i64 y.pShown, .int .i64 y.pTrue] 50) (some b))
  have s1 : IntKind.i64.wrap (y.pShown + 1) = y.pShown + 1 := IntWalk.i64_in _ (by omega)
  have s2 : IntKind.i64.wrap (y.pShown - 1) = y.pShown - 1 := IntWalk.i64_in _ (by omega)
  have s3 : IntKind.i64.wrap (y.pShown + 5) = y.pShown + 5 := IntWalk.i64_in _ (by omega)
  clear hcell hcc hy HO
  have HBL : Hid (∀ x ∈ [y.pShown, y.pTrue, y.pShown + 1, y.pShown - 1, y.pShown + 5, 0, 1000000, -1, 1000001], -3000000 ≤ x ∧ x ≤ 3000000) := Lib.hid (fun x hx => by simp at hx; omega)
  obtain ⟨W, hW⟩ : ∃ W, w1.alloc (.cells #[.int .i64 y.pShown, .int .i64 y.pTrue] 50) = W := ⟨_, rfl⟩
  rw [hW] at bx hc2 hg2
  have hne : w1.heap.size ≠ b := by have := hc1.lt; omega
  go_wp2
  clear hW y0 y1 hg1 hc1
  generalize w1.heap.size = gx at *
  have bx2 : ∀ {w' : World}, Bx w' gx [.int .i64 y.pShown, .int .i64 y.pTrue] → w'.cell? ⟨gx, 0, none⟩ = some (.int .i64 y.pShown) ∧ w'.cell? ⟨gx, 1, none⟩ = some (.int .i64 y.pTrue) := fun h => ⟨h.2 0 _ rfl, h.2 1 _ rfl⟩
  have bt : Bx W.drew gx [.int .i64 y.pShown, .int .i64 y.pTrue] := bx
  have btA : Bx (W.alloc (.cells #[.int .i64 y.pShown, .int .i64 y.pTrue, .int .i64 (y.pShown + 1), .int .i64 (y.pShown - 1), .int .i64 (y.pShown + 5), .int .i64 0, .int .i64 1000000, .int .i64 (-1), .int .i64 1000001] 3)).drew gx [.int .i64 y.pShown, .int .i64 y.pTrue] := bx.alloc _
  have HC := Lib.hid (show Cur W.drew B b (k + 2) from hc2)
  have HCA := Lib.hid (show Cur (W.alloc (.cells #[.int .i64 y.pShown, .int .i64 y.pTrue, .int .i64 (y.pShown + 1), .int .i64 (y.pShown - 1), .int .i64 (y.pShown + 5), .int .i64 0, .int .i64 1000000, .int .i64 (-1), .int .i64 1000001] 3)).drew B b (k + 2) from hc2.alloc _)
  have hlA : OfInts (W.alloc (.cells #[.int .i64 y.pShown, .int .i64 y.pTrue, .int .i64 (y.pShown + 1), .int .i64 (y.pShown - 1), .int .i64 (y.pShown + 5), .int .i64 0, .int .i64 1000000, .int .i64 (-1), .int .i64 1000001] 3)).drew b (.slice (some ⟨W.heap.size, 0, none⟩) 9 9) [y.pShown, y.pTrue, y.pShown + 1, y.pShown - 1, y.pShown + 5, 0, 1000000, -1, 1000001] := ints_lit W b hc2.lt 3 9 [y.pShown, y.pTrue, y.pShown + 1, y.pShown - 1, y.pShown + 5, 0, 1000000, -1, 1000001]
  have HK := Lib.hid (bx2 bt)
  have HKA := Lib.hid (bx2 btA)
  have GD : W.grownBy W.drew (some b) := ⟨rfl, rfl, rfl, Nat.le_refl _, fun _ _ _ => rfl⟩
  have GA : W.grownBy (W.alloc (.cells #[.int .i64 y.pShown, .int .i64 y.pTrue, .int .i64 (y.pShown + 1), .int .i64 (y.pShown - 1), .int .i64 (y.pShown + 5), .int .i64 0, .int .i64 1000000, .int .i64 (-1), .int .i64 1000001] 3)).drew (some b) := (grown_alloc W _ (some b)).trans ⟨rfl, rfl, rfl, Nat.le_refl _, fun _ _ _ => rfl⟩
  go_region_held3 (fun w' => w'.cell? ⟨gx, 0, none⟩ = some (.int .i64 y.pShown) ∧ w'.cell? ⟨gx, 1, none⟩ = some (.int .i64 y.pTrue))
    (first
      | with_reducible exact HK.out
      | with_reducible exact k5
      | with_reducible exact k6
      | with_reducible exact HKA.out
      | exact bx2 (b5.alloc _))
    (first
      | (go_at_call 106; (with_reducible refine (cur_pick (W.alloc (.cells #[.int .i64 y.pShown, .int .i64 y.pTrue, .int .i64 (y.pShown + 1), .int .i64 (y.pShown - 1), .int .i64 (y.pShown + 5), .int .i64 0, .int .i64 1000000, .int .i64 (-1), .int .i64 1000001] 3)).drew B b (k + 2) 24 HCA.out (by omega) (by omega) (by omega)).mono ?_); rintro e w5 ⟨r, rfl, hr2, hr3, hc5, hg5⟩; have b5 := btA.grown hg5 (by simpa using hne); have hl5 := hlA.grown hg5; have G5 := GA.trans hg5; obtain ⟨q1, hq, hq2⟩ : ∃ q : Nat, r.tdiv 11 = q ∧ q ≤ 2 := ⟨(r / 11).toNat, (by rw [Int.tdiv_eq_ediv_of_nonneg hr2]; omega), (by omega)⟩; have t1 : IntKind.i64.wrap (q1 : Int) = q1 := IntWalk.i64_in _ (by omega); have t2 : IntKind.i64.wrap (7 + (q1 : Int)) = 7 + q1 := IntWalk.i64_in _ (by omega); have t3 : (0 : Int) ≤ 7 + (q1 : Int) := (by omega); have t4 : 7 + (q1 : Int) ≤ 9 := (by omega); have t5 : (7 + (q1 : Int)).toNat = 7 + q1 := (by omega); have k5 := bx2 b5)
      | (go_at_call 106; (with_reducible refine (cur_pick W.drew B b (k + 2) 24 HC.out (by omega) (by omega) (by omega)).mono ?_); rintro e w5 ⟨r, rfl, hr2, hr3, hc5, hg5⟩; have b5 := bt.grown hg5 (by simpa using hne); have G5 := GD.trans hg5; obtain ⟨q1, hq, hq2⟩ : ∃ q : Nat, r.tdiv 11 = q ∧ q ≤ 2 := ⟨(r / 11).toNat, (by rw [Int.tdiv_eq_ediv_of_nonneg hr2]; omega), (by omega)⟩; have t1 : IntKind.i64.wrap (q1 : Int) = q1 := IntWalk.i64_in _ (by omega); have t2 : IntKind.i64.wrap (7 + (q1 : Int)) = 7 + q1 := IntWalk.i64_in _ (by omega); have t3 : (0 : Int) ≤ 7 + (q1 : Int) := (by omega); have t4 : 7 + (q1 : Int) ≤ 9 := (by omega); have t5 : (7 + (q1 : Int)).toNat = 7 + q1 := (by omega); have k5 := bx2 b5)
      | (go_at_call 87; have hl9 : OfInts (w5.alloc (.cells #[.int .i64 y.pShown, .int .i64 y.pTrue, .int .i64 (y.pShown + 1), .int .i64 (y.pShown - 1), .int .i64 (y.pShown + 5), .int .i64 0, .int .i64 1000000, .int .i64 (-1), .int .i64 1000001] 3)) b (.slice (some ⟨w5.heap.size, 0, none⟩) 9 9) [y.pShown, y.pTrue, y.pShown + 1, y.pShown - 1, y.pShown + 5, 0, 1000000, -1, 1000001] := ints_lit w5 b hc5.lt 3 9 [y.pShown, y.pTrue, y.pShown + 1, y.pShown - 1, y.pShown + 5, 0, 1000000, -1, 1000001]; (with_reducible refine (cur_among (w5.alloc (.cells #[.int .i64 y.pShown, .int .i64 y.pTrue, .int .i64 (y.pShown + 1), .int .i64 (y.pShown - 1), .int .i64 (y.pShown + 5), .int .i64 0, .int .i64 1000000, .int .i64 (-1), .int .i64 1000001] 3)) B b _ (hc5.alloc _) (by omega) _ _ (hl9.take (7 + q1) (by simp; omega)) (by simp; omega) (by simp; omega)).mono ?_); rintro e w6 ⟨c, rfl, hx, hc6, hg6⟩; have b6 := (b5.alloc _).grown hg6 (by simpa using hne); have G6 := G5.trans ((grown_alloc w5 _ _).trans hg6); have hc9 : -3000000 ≤ c ∧ c ≤ 3000000 := mem_take_all (P := fun x => -3000000 ≤ x ∧ x ≤ 3000000) HBL.out hx; have k6 := bx2 b6)
      | (go_at_call 87; (with_reducible refine (cur_among w5 B b _ hc5 (by omega) _ _ (hl5.take (7 + q1) (by simp; omega)) (by simp; omega) (by simp; omega)).mono ?_); rintro e w6 ⟨c, rfl, hx, hc6, hg6⟩; have b6 := b5.grown hg6 (by simpa using hne); have G6 := G5.trans hg6; have hc9 : -3000000 ≤ c ∧ c ≤ 3000000 := mem_take_all (P := fun x => -3000000 ≤ x ∧ x ≤ 3000000) HBL.out hx; have k6 := bx2 b6))
  all_goals
    go_wp2
    go_ret
    exact ⟨c, rfl, hc9, hc6.mono (by omega), hg2.trans G6⟩
set_option maxRecDepth 100000 in
set_option maxHeartbeats 1000000 in
theorem drawTT (w : World) (B : Nat) (v : Value) (h : CodeArg w B v) :
    Calls Try.prog 35 #[v] w fun e w' => ∃ (v' : Value) (xs : List GClockMark) (c : Int), e = .returned (.tuple #[v', .int .i64 c]) ∧ (-3000000 ≤ c ∧ c ≤ 3000000) ∧ DrTk w w' v' xs := by
  obtain ⟨h0, ao, n, cap, rfl, h2, h3⟩ := h
  have hcu := cur_new w B ao n cap h0 h2 h3
  have hbw : w.heap.size < (w.alloc (.cells #[.slice ao n cap, .int .i64 0, .int .u64 0] 87)).heap.size := by simp
  clear h3
  go_enter Try.func35, Try.ntmps35
  go_wp2_with fail
  refine (cur_track _ B w.heap.size 0 hcu (by omega)).mono ?_
  rintro e w1 ⟨v1, xs, rfl, hl, hbd, hO, hc1, hg1⟩
  have HO1 := Lib.hid hO
  have HBD := Lib.hid hbd
  obtain ⟨a1, c1, rfl⟩ := hO.form
  clear hO hcu hbd
  go_wp2_with fail
  refine (cur_shown5 _ B w.heap.size _ _ xs hc1 (by omega) _ hbw HO1.out hl HBD.out).mono ?_
  rintro e w2 ⟨c, rfl, hcb, hc2, hg2⟩
  have HO2 := Lib.hid ((own_drew HO1.out hg2 hbw).lst.mono hg2.size)
  have G2 := hg1.trans hg2
  clear HO1 hg1 hg2 hc1 hc2
  go_wp2
  go_ret2
  exact ⟨_, xs, c, rfl, hcb, HO2.out, hl, HBD.out, grown_below G2⟩
set_option maxRecDepth 100000 in
set_option maxHeartbeats 1000000 in
theorem drawST (w : World) (B : Nat) (v : Value) (h : CodeArg w B v) :
    Calls Try.prog 38 #[v] w fun e w' => ∃ (v' : Value) (xs : List GClockMark) (c : Int), e = .returned (.tuple #[v', .int .i64 c]) ∧ (-3000000 ≤ c ∧ c ≤ 3000000) ∧ DrTk w w' v' xs := by
  have C := Lib.hid (drawTT w B v h)
  obtain ⟨h0, ao, n, cap, rfl, h2, h3⟩ := h
  clear h3
  go_enter Try.func38, Try.ntmps38
  go_wp2_with fail
  refine C.out.mono ?_
  rintro e w1 ⟨v1, xs, c, rfl, hcb, hD⟩
  have HD := Lib.hid hD
  obtain ⟨a1, c1, rfl⟩ := hD.lst.form
  clear hD
  go_wp2
  go_ret2
  exact ⟨_, xs, c, rfl, hcb, HD.out⟩
end Go.Proofs.Ytklilfbokpljkac
