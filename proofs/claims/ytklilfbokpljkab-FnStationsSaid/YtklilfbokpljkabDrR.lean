/- The specification's draws for the laws on stations. -/
import Derived.Test.YtklilfbokpljkabDrQ
namespace Go.Proofs.Ytklilfbokpljkab
open Go.ChangeShapes Go.WideShapes Go.ChangeAt Go.RowKit Go.ChangeMaps
set_option linter.unusedSimpArgs false
set_option linter.unusedVariables false

/-- Stations that a draw gives. -/
def DrSt (w w' : World) (v : Value) (xs : List GStation) : Prop := xs.length ≤ 20 ∧ (∀ s ∈ xs, BdS s) ∧ StationL w' w'.heap.size v xs ∧ Below w.heap.size w w'
theorem Stn.alloc {w0 w : World} {B b k : Nat} {v : Value} {xs : List GStation} (h : Stn w0 w B b k v xs) (o : Obj) : Stn w0 (w.alloc o) B b k v xs := h.below ((Below.refl _ w).alloc (Nat.le_refl _) o)
theorem Stn.drawn {w w' : World} {o : Obj} {B k : Nat} {v : Value} {xs : List GStation} (h : Stn (w.alloc o) w' B w.heap.size k v xs) (hl : xs.length ≤ 20) : DrSt w w' v xs := ⟨hl, h.bd, h.lst, grown_below h.gr⟩
set_option maxRecDepth 100000 in
set_option maxHeartbeats 1000000 in
theorem drawAre (w : World) (B : Nat) (v : Value) (h : CodeArg w B v) :
    Calls Try.prog 106 #[v] w fun e w' => ∃ (v' : Value) (xs : List GStation), e = .returned v' ∧ DrSt w w' v' xs := by
  obtain ⟨h0, ao, n, cap, rfl, h2, h3⟩ := h
  have hcu := cur_new w B ao n cap h0 h2 h3
  go_enter Try.func106, Try.ntmps106
  go_wp2_with fail
  refine (cur_stations _ B w.heap.size 0 hcu (by omega)).mono ?_
  rintro e w1 ⟨v1, xs, rfl, hl, hS⟩
  go_wp2
  go_ret
  exact ⟨_, xs, rfl, hS.drawn hl⟩
set_option maxRecDepth 100000 in
theorem drawCommonBand (w : World) (B : Nat) (v : Value) (h : CodeArg w B v) :
    Calls Try.prog 60 #[v] w fun e w' => ∃ (v' : Value) (xs : List GStation), e = .returned v' ∧ DrSt w w' v' xs := by
  have C := Lib.hid (drawAre w B v h)
  obtain ⟨h0, ao, n, cap, rfl, h2, h3⟩ := h
  clear h3
  go_enter Try.func60, Try.ntmps60
  go_wp2_with fail
  refine C.out.mono ?_
  rintro e w1 ⟨v1, xs, rfl, hD⟩
  go_wp2
  go_ret
  exact ⟨_, xs, rfl, hD⟩
set_option maxRecDepth 100000 in
set_option maxHeartbeats 1000000 in
theorem drawNear (w : World) (B : Nat) (v : Value) (h : CodeArg w B v) :
    Calls Try.prog 56 #[v] w fun e w' => ∃ (v' : Value) (xs : List GStation) (x y c : Int), e = .returned (.tuple #[v', .int .i64 x, .int .i64 y, .int .i64 c]) ∧ (-2000000 ≤ x ∧ x ≤ 2000000) ∧ (-2000000 ≤ y ∧ y ≤ 2000000) ∧ (-2000000 ≤ c ∧ c ≤ 2000000) ∧ DrSt w w' v' xs := by
  obtain ⟨h0, ao, n, cap, rfl, h2, h3⟩ := h
  have hcu := cur_new w B ao n cap h0 h2 h3
  have hbw : w.heap.size < (w.alloc (.cells #[.slice ao n cap, .int .i64 0, .int .u64 0] 98)).heap.size := by simp
  clear h3
  go_enter Try.func56, Try.ntmps56
  go_wp2_with fail
  refine (cur_stations _ B w.heap.size 0 hcu (by omega)).mono ?_
  rintro e w1 ⟨v1, xs, rfl, hl, hS⟩
  obtain ⟨g1, cap1, rfl⟩ := hS.form
  have HS1 := Lib.hid hS
  clear hS hcu
  go_wp2_with fail
  refine (cur_place _ B w.heap.size _ HS1.out.cur (by omega)).mono ?_
  rintro e w2 ⟨x, y, rfl, hx, hy, hc, hg⟩
  have HS2 := Lib.hid (HS1.out.draw hbw hg hc)
  clear HS1 hc hg
  have y2 := HS2.out.cur.lt
  go_wp2_with fail
  refine (cur_pick _ B w.heap.size _ 24 (HS2.out.cur.alloc _) (by omega) (by omega) (by omega)).mono ?_
  rintro e w3 ⟨r2, rfl, hr0, hr1, hc, hg⟩
  have hl2 := (ints_lit w2 w.heap.size y2 3 6 [1, 2, 3, 10, 0, 11]).grown hg
  have HS3 := Lib.hid ((HS2.out.alloc _).draw hbw hg hc)
  obtain ⟨q2, hq, hq2⟩ : ∃ q : Nat, r2.tdiv 11 = q ∧ q ≤ 2 := ⟨(r2 / 11).toNat, by rw [Int.tdiv_eq_ediv_of_nonneg hr0]; omega, by omega⟩
  clear HS2 hc hg
  go_wp2_with fail
  refine (cur_among _ B w.heap.size _ HS3.out.cur (by omega) _ _ (hl2.take (4 + q2) (by simp; omega)) (by simp; omega) (by simp; omega)).mono ?_
  rintro e w4 ⟨c, rfl, hx9, hc, hg⟩
  have hbc : -2000000 ≤ c ∧ c ≤ 2000000 := mem_take_all (P := fun x => -2000000 ≤ x ∧ x ≤ 2000000) (by decide) hx9
  have HS4 := Lib.hid (HS3.out.draw hbw hg hc)
  clear HS3 hc hg hq hx9 hl2 hr0 hr1 hq2
  go_wp2
  refine bodyPost_ret (v := .tuple #[.slice (some ⟨g1, 0, none⟩) xs.length cap1, .int .i64 x, .int .i64 y, .int .i64 c]) (by simp [results, Try.results56, go_sem]) rfl ?_
  exact ⟨_, xs, x, y, c, rfl, by omega, by omega, hbc, HS4.out.drawn hl⟩
set_option maxRecDepth 100000 in
set_option maxHeartbeats 1000000 in
theorem drawSee (w : World) (B : Nat) (v : Value) (h : CodeArg w B v) :
    Calls Try.prog 65 #[v] w fun e w' => ∃ (v' : Value) (xs : List GStation) (c : Int), e = .returned (.tuple #[v', .int .i64 c]) ∧ (-2000000 ≤ c ∧ c ≤ 2000000) ∧ DrSt w w' v' xs := by
  obtain ⟨h0, ao, n, cap, rfl, h2, h3⟩ := h
  have hcu := cur_new w B ao n cap h0 h2 h3
  have hbw : w.heap.size < (w.alloc (.cells #[.slice ao n cap, .int .i64 0, .int .u64 0] 98)).heap.size := by simp
  clear h3
  go_enter Try.func65, Try.ntmps65
  go_wp2_with fail
  refine (cur_stations _ B w.heap.size 0 hcu (by omega)).mono ?_
  rintro e w1 ⟨v1, xs, rfl, hl, hS⟩
  obtain ⟨g1, cap1, rfl⟩ := hS.form
  have HS1 := Lib.hid hS
  clear hS hcu
  have y1 := HS1.out.cur.lt
  go_wp2_with fail
  refine (cur_pick _ B w.heap.size _ 24 (HS1.out.cur.alloc _) (by omega) (by omega) (by omega)).mono ?_
  rintro e w2 ⟨r1, rfl, hr0, hr1, hc, hg⟩
  have hl1 := (ints_lit w1 w.heap.size y1 3 8 [1, 5, 99, 100, 2000, 5000, 0, 5001]).grown hg
  have HS2 := Lib.hid ((HS1.out.alloc _).draw hbw hg hc)
  obtain ⟨q1, hq, hq2⟩ : ∃ q : Nat, r1.tdiv 11 = q ∧ q ≤ 2 := ⟨(r1 / 11).toNat, by rw [Int.tdiv_eq_ediv_of_nonneg hr0]; omega, by omega⟩
  clear HS1 hc hg
  go_wp2_with fail
  refine (cur_among _ B w.heap.size _ HS2.out.cur (by omega) _ _ (hl1.take (6 + q1) (by simp; omega)) (by simp; omega) (by simp; omega)).mono ?_
  rintro e w3 ⟨c, rfl, hx9, hc, hg⟩
  have hbc : -2000000 ≤ c ∧ c ≤ 2000000 := mem_take_all (P := fun x => -2000000 ≤ x ∧ x ≤ 2000000) (by decide) hx9
  have HS3 := Lib.hid (HS2.out.draw hbw hg hc)
  clear HS2 hc hg hq hx9 hl1 hr0 hr1 hq2
  go_wp2
  go_ret2
  exact ⟨_, xs, c, rfl, hbc, HS3.out.drawn hl⟩
theorem bx8 {w' : World} {b : Nat} {c0 c1 c2 c3 c4 c5 c6 c7 : Value} (h : Bx w' b [c0, c1, c2, c3, c4, c5, c6, c7]) : w'.cell? ⟨b, 0, none⟩ = some c0 ∧ w'.cell? ⟨b, 1, none⟩ = some c1 ∧ w'.cell? ⟨b, 2, none⟩ = some c2 ∧ w'.cell? ⟨b, 3, none⟩ = some c3 ∧ w'.cell? ⟨b, 4, none⟩ = some c4 ∧ w'.cell? ⟨b, 5, none⟩ = some c5 ∧ w'.cell? ⟨b, 6, none⟩ = some c6 ∧ w'.cell? ⟨b, 7, none⟩ = some c7 :=
  ⟨h.2 0 _ rfl, h.2 1 _ rfl, h.2 2 _ rfl, h.2 3 _ rfl, h.2 4 _ rfl, h.2 5 _ rfl, h.2 6 _ rfl, h.2 7 _ rfl⟩
theorem cur_new1S (w : World) (o : Obj) (B : Nat) (ao : Option Addr) (n cap : Nat) (hB : B ≤ w.heap.size) (hn : n ≤ 65536) (hc : Code w B ao n) :
    Cur ((w.alloc o).alloc (.cells #[.slice ao n cap, .int .i64 0, .int .u64 0] 98)) B (w.heap.size + 1) 0 := by
  have h := cur_new (w.alloc o) B ao n cap (by simp; omega) hn (hc.keep fun bb o' hbb => ((Below.refl B w).alloc hB o).cell (p := ⟨bb, o', none⟩) hbb)
  rwa [World.size_alloc] at h
theorem drew_alloc_grown {w w5 : World} {o : Obj} {b : Nat} (hg : (w.alloc o).drew.grownBy w5 (some b)) : w.grownBy w5 (some b) := (grown_alloc w o (some b)).trans ⟨hg.os, hg.tape, hg.output, hg.size, hg.block⟩
theorem drew_alloc2_grown {w w5 : World} {o p : Obj} {b : Nat} (hg : ((w.alloc o).alloc p).drew.grownBy w5 (some b)) : w.grownBy w5 (some b) := ((grown_alloc w o (some b)).trans (grown_alloc _ p _)).trans ⟨hg.os, hg.tape, hg.output, hg.size, hg.block⟩
set_option maxRecDepth 100000 in
set_option maxHeartbeats 4000000 in
theorem drawSpd (w : World) (B : Nat) (v : Value) (h : CodeArg w B v) :
    Calls Try.prog 64 #[v] w fun e w' => ∃ (s : GStation) (c : Int), e = .returned (.tuple #[.agg #[.int .i64 s.pId, .string s.pName, .int .i64 s.pX, .int .i64 s.pY, .int .i64 s.pGain, .int .i64 s.pLow, .int .i64 s.pHigh, .int .i64 s.pUntil], .int .i64 c]) ∧ BdS s ∧ (-2000000 ≤ c ∧ c ≤ 2000000) ∧ Below w.heap.size w w' := by
  obtain ⟨h0, ao, n, cap, rfl, h2, h3⟩ := h
  have d0 := (Bx.new w [.int .i64 0, .string .empty, .int .i64 0, .int .i64 0, .int .i64 0, .int .i64 0, .int .i64 0, .int .i64 0] 60).alloc (.cells #[.slice ao n cap, .int .i64 0, .int .u64 0] 98)
  have hcu := Lib.hid (cur_new1S w (.cells #[.int .i64 0, .string .empty, .int .i64 0, .int .i64 0, .int .i64 0, .int .i64 0, .int .i64 0, .int .i64 0] 60) B ao n cap h0 h2 h3)
  clear h3
  go_enter Try.func64, Try.ntmps64
  go_wp2_with fail
  refine (cur_station _ B (w.heap.size + 1) 0 5 hcu.out (by omega) (by omega)).mono ?_
  rintro e w1 ⟨s, rfl, hbs, hc, hg⟩
  have d1 := d0.grown hg (by simp)
  have z1 : w.heap.size + 1 + 1 ≤ w1.heap.size := by have := hg.size; simpa using this
  have HG := Lib.hid hg
  have HC := Lib.hid (show Cur (w1.alloc (.cells #[.int .i64 s.pId, .string s.pName, .int .i64 s.pX, .int .i64 s.pY, .int .i64 s.pGain, .int .i64 s.pLow, .int .i64 s.pHigh, .int .i64 s.pUntil] 60)).drew B (w.heap.size + 1) 40 from hc.alloc _)
  have bt : Bx (w1.alloc (.cells #[.int .i64 s.pId, .string s.pName, .int .i64 s.pX, .int .i64 s.pY, .int .i64 s.pGain, .int .i64 s.pLow, .int .i64 s.pHigh, .int .i64 s.pUntil] 60)).drew w1.heap.size [.int .i64 s.pId, .string s.pName, .int .i64 s.pX, .int .i64 s.pY, .int .i64 s.pGain, .int .i64 s.pLow, .int .i64 s.pHigh, .int .i64 s.pUntil] := Bx.new w1 [.int .i64 s.pId, .string s.pName, .int .i64 s.pX, .int .i64 s.pY, .int .i64 s.pGain, .int .i64 s.pLow, .int .i64 s.pHigh, .int .i64 s.pUntil] 60
  have dt : Bx (w1.alloc (.cells #[.int .i64 s.pId, .string s.pName, .int .i64 s.pX, .int .i64 s.pY, .int .i64 s.pGain, .int .i64 s.pLow, .int .i64 s.pHigh, .int .i64 s.pUntil] 60)).drew w.heap.size [.int .i64 0, .string .empty, .int .i64 0, .int .i64 0, .int .i64 0, .int .i64 0, .int .i64 0, .int .i64 0] := d1.alloc _
  have hzb : w.heap.size + 1 < (w1.alloc (.cells #[.int .i64 s.pId, .string s.pName, .int .i64 s.pX, .int .i64 s.pY, .int .i64 s.pGain, .int .i64 s.pLow, .int .i64 s.pHigh, .int .i64 s.pUntil] 60)).drew.heap.size := HC.out.lt
  have ne1 : w.heap.size ≠ w1.heap.size := by omega
  have HK := Lib.hid (bx8 bt)
  have HCA := Lib.hid (show Cur ((w1.alloc (.cells #[.int .i64 s.pId, .string s.pName, .int .i64 s.pX, .int .i64 s.pY, .int .i64 s.pGain, .int .i64 s.pLow, .int .i64 s.pHigh, .int .i64 s.pUntil] 60)).alloc (.cells #[.int .i64 0, .int .i64 9, .int .i64 (-9), .int .i64 100000, .int .i64 (-100000), .int .i64 100001, .int .i64 (-100001)] 3)).drew B (w.heap.size + 1) 40 from (hc.alloc _).alloc _)
  have btA : Bx ((w1.alloc (.cells #[.int .i64 s.pId, .string s.pName, .int .i64 s.pX, .int .i64 s.pY, .int .i64 s.pGain, .int .i64 s.pLow, .int .i64 s.pHigh, .int .i64 s.pUntil] 60)).alloc (.cells #[.int .i64 0, .int .i64 9, .int .i64 (-9), .int .i64 100000, .int .i64 (-100000), .int .i64 100001, .int .i64 (-100001)] 3)).drew w1.heap.size [.int .i64 s.pId, .string s.pName, .int .i64 s.pX, .int .i64 s.pY, .int .i64 s.pGain, .int .i64 s.pLow, .int .i64 s.pHigh, .int .i64 s.pUntil] := (Bx.new w1 [.int .i64 s.pId, .string s.pName, .int .i64 s.pX, .int .i64 s.pY, .int .i64 s.pGain, .int .i64 s.pLow, .int .i64 s.pHigh, .int .i64 s.pUntil] 60).alloc _
  have dtA : Bx ((w1.alloc (.cells #[.int .i64 s.pId, .string s.pName, .int .i64 s.pX, .int .i64 s.pY, .int .i64 s.pGain, .int .i64 s.pLow, .int .i64 s.pHigh, .int .i64 s.pUntil] 60)).alloc (.cells #[.int .i64 0, .int .i64 9, .int .i64 (-9), .int .i64 100000, .int .i64 (-100000), .int .i64 100001, .int .i64 (-100001)] 3)).drew w.heap.size [.int .i64 0, .string .empty, .int .i64 0, .int .i64 0, .int .i64 0, .int .i64 0, .int .i64 0, .int .i64 0] := (d1.alloc _).alloc _
  have hlA : OfInts ((w1.alloc (.cells #[.int .i64 s.pId, .string s.pName, .int .i64 s.pX, .int .i64 s.pY, .int .i64 s.pGain, .int .i64 s.pLow, .int .i64 s.pHigh, .int .i64 s.pUntil] 60)).alloc (.cells #[.int .i64 0, .int .i64 9, .int .i64 (-9), .int .i64 100000, .int .i64 (-100000), .int .i64 100001, .int .i64 (-100001)] 3)).drew (w.heap.size + 1) (.slice (some ⟨w1.heap.size + 1, 0, none⟩) 7 7) [0, 9, -9, 100000, -100000, 100001, -100001] := by
    have := ints_lit (w1.alloc (.cells #[.int .i64 s.pId, .string s.pName, .int .i64 s.pX, .int .i64 s.pY, .int .i64 s.pGain, .int .i64 s.pLow, .int .i64 s.pHigh, .int .i64 s.pUntil] 60)) (w.heap.size + 1) (by simp; omega) 3 7 [0, 9, -9, 100000, -100000, 100001, -100001]
    rw [World.size_alloc] at this
    exact this
  have HKA := Lib.hid (bx8 btA)
  clear hg hc d0 d1
  go_wp2_with fail
  go_region_held3 (fun w' => w'.cell? ⟨w1.heap.size, 0, none⟩ = some (.int .i64 s.pId) ∧ w'.cell? ⟨w1.heap.size, 1, none⟩ = some (.string s.pName) ∧ w'.cell? ⟨w1.heap.size, 2, none⟩ = some (.int .i64 s.pX) ∧ w'.cell? ⟨w1.heap.size, 3, none⟩ = some (.int .i64 s.pY) ∧ w'.cell? ⟨w1.heap.size, 4, none⟩ = some (.int .i64 s.pGain) ∧ w'.cell? ⟨w1.heap.size, 5, none⟩ = some (.int .i64 s.pLow) ∧ w'.cell? ⟨w1.heap.size, 6, none⟩ = some (.int .i64 s.pHigh) ∧ w'.cell? ⟨w1.heap.size, 7, none⟩ = some (.int .i64 s.pUntil))
    (first
      | with_reducible exact HK.out
      | with_reducible exact k5
      | with_reducible exact k6
      | with_reducible exact HKA.out
      | with_reducible exact bx8 (b5.alloc _)
      | exact bx8 ((((((((b6.setOther (p := ⟨w.heap.size, 0, none⟩) ne1 _).setOther (p := ⟨w.heap.size, 1, none⟩) ne1 _).setOther (p := ⟨w.heap.size, 2, none⟩) ne1 _).setOther (p := ⟨w.heap.size, 3, none⟩) ne1 _).setOther (p := ⟨w.heap.size, 4, none⟩) ne1 _).setOther (p := ⟨w.heap.size, 5, none⟩) ne1 _).setOther (p := ⟨w.heap.size, 6, none⟩) ne1 _).setOther (p := ⟨w.heap.size, 7, none⟩) ne1 _))
    (first
      | (go_at_call 88; (with_reducible refine (cur_pick ((w1.alloc (.cells #[.int .i64 s.pId, .string s.pName, .int .i64 s.pX, .int .i64 s.pY, .int .i64 s.pGain, .int .i64 s.pLow, .int .i64 s.pHigh, .int .i64 s.pUntil] 60)).alloc (.cells #[.int .i64 0, .int .i64 9, .int .i64 (-9), .int .i64 100000, .int .i64 (-100000), .int .i64 100001, .int .i64 (-100001)] 3)).drew B (w.heap.size + 1) 40 24 HCA.out (by omega) (by omega) (by omega)).mono ?_); rintro e w5 ⟨r, rfl, hr0, hr1, hc5, hg5⟩; have b5 := btA.grown hg5 (by first | omega | (simp; done) | (simp; omega)); have d5 := dtA.grown hg5 (by first | omega | (simp; done) | (simp; omega)); have hl5 := hlA.grown hg5; have G5 : w1.grownBy w5 (some (w.heap.size + 1)) := drew_alloc2_grown hg5; obtain ⟨q, hq, hq2⟩ : ∃ q : Nat, r.tdiv 11 = q ∧ q ≤ 2 := ⟨(r / 11).toNat, (by rw [Int.tdiv_eq_ediv_of_nonneg hr0]; omega), (by omega)⟩; have s1 : IntKind.i64.wrap (q : Int) = q := IntWalk.i64_in _ (by omega); have s2 : IntKind.i64.wrap (5 + (q : Int)) = 5 + q := IntWalk.i64_in _ (by omega); have s3 : (0 : Int) ≤ 5 + (q : Int) := (by omega); have s4 : 5 + (q : Int) ≤ 7 := (by omega); have s5 : (5 + (q : Int)).toNat = 5 + q := (by omega); have k5 := bx8 b5)
      | (go_at_call 88; (with_reducible refine (cur_pick (w1.alloc (.cells #[.int .i64 s.pId, .string s.pName, .int .i64 s.pX, .int .i64 s.pY, .int .i64 s.pGain, .int .i64 s.pLow, .int .i64 s.pHigh, .int .i64 s.pUntil] 60)).drew B (w.heap.size + 1) 40 24 HC.out (by omega) (by omega) (by omega)).mono ?_); rintro e w5 ⟨r, rfl, hr0, hr1, hc5, hg5⟩; have b5 := bt.grown hg5 (by first | omega | (simp; done) | (simp; omega)); have d5 := dt.grown hg5 (by first | omega | (simp; done) | (simp; omega)); have G5 : w1.grownBy w5 (some (w.heap.size + 1)) := drew_alloc_grown hg5; obtain ⟨q, hq, hq2⟩ : ∃ q : Nat, r.tdiv 11 = q ∧ q ≤ 2 := ⟨(r / 11).toNat, (by rw [Int.tdiv_eq_ediv_of_nonneg hr0]; omega), (by omega)⟩; have s1 : IntKind.i64.wrap (q : Int) = q := IntWalk.i64_in _ (by omega); have s2 : IntKind.i64.wrap (5 + (q : Int)) = 5 + q := IntWalk.i64_in _ (by omega); have s3 : (0 : Int) ≤ 5 + (q : Int) := (by omega); have s4 : 5 + (q : Int) ≤ 7 := (by omega); have s5 : (5 + (q : Int)).toNat = 5 + q := (by omega); have k5 := bx8 b5)
      | (go_at_call 96; have hl9 : OfInts (w5.alloc (.cells #[.int .i64 0, .int .i64 9, .int .i64 (-9), .int .i64 100000, .int .i64 (-100000), .int .i64 100001, .int .i64 (-100001)] 3)) (w.heap.size + 1) (.slice (some ⟨w5.heap.size, 0, none⟩) 7 7) [0, 9, -9, 100000, -100000, 100001, -100001] := ints_lit w5 (w.heap.size + 1) hc5.lt 3 7 [0, 9, -9, 100000, -100000, 100001, -100001]; (with_reducible refine (cur_among (w5.alloc (.cells #[.int .i64 0, .int .i64 9, .int .i64 (-9), .int .i64 100000, .int .i64 (-100000), .int .i64 100001, .int .i64 (-100001)] 3)) B (w.heap.size + 1) _ (hc5.alloc _) (by omega) _ _ (hl9.take (5 + q) (by simp; omega)) (by simp; omega) (by simp; omega)).mono ?_); rintro e w6 ⟨c, rfl, hx, hc6, hg6⟩; have b6 := (b5.alloc _).grown hg6 (by first | omega | (simp; done) | (simp; omega)); have d6 := (d5.alloc _).grown hg6 (by first | omega | (simp; done) | (simp; omega)); have G6 := G5.trans ((grown_alloc w5 _ _).trans hg6); have hc9 : -2000000 ≤ c ∧ c ≤ 2000000 := mem_take_all (P := fun x => -2000000 ≤ x ∧ x ≤ 2000000) (by decide) hx; have k6 := bx8 b6; have x0 := d6.2 0 _ rfl; have x1 := d6.2 1 _ rfl; have x2 := d6.2 2 _ rfl; have x3 := d6.2 3 _ rfl; have x4 := d6.2 4 _ rfl; have x5 := d6.2 5 _ rfl; have x6 := d6.2 6 _ rfl; have x7 := d6.2 7 _ rfl; have xf := d6.1.2)
      | (go_at_call 96; (with_reducible refine (cur_among w5 B (w.heap.size + 1) _ hc5 (by omega) _ _ (hl5.take (5 + q) (by simp; omega)) (by simp; omega) (by simp; omega)).mono ?_); rintro e w6 ⟨c, rfl, hx, hc6, hg6⟩; have b6 := b5.grown hg6 (by first | omega | (simp; done) | (simp; omega)); have d6 := d5.grown hg6 (by first | omega | (simp; done) | (simp; omega)); have G6 := G5.trans hg6; have hc9 : -2000000 ≤ c ∧ c ≤ 2000000 := mem_take_all (P := fun x => -2000000 ≤ x ∧ x ≤ 2000000) (by decide) hx; have k6 := bx8 b6; have x0 := d6.2 0 _ rfl; have x1 := d6.2 1 _ rfl; have x2 := d6.2 2 _ rfl; have x3 := d6.2 3 _ rfl; have x4 := d6.2 4 _ rfl; have x5 := d6.2 5 _ rfl; have x6 := d6.2 6 _ rfl; have x7 := d6.2 7 _ rfl; have xf := d6.1.2))
  all_goals
    have zz := G6.size
    clear HK HKA HC HCA bt btA dt dtA hlA hcu
    go_wp2
    refine bodyPost_ret (v := .tuple #[.agg #[.int .i64 s.pId, .string s.pName, .int .i64 s.pX, .int .i64 s.pY, .int .i64 s.pGain, .int .i64 s.pLow, .int .i64 s.pHigh, .int .i64 s.pUntil], .int .i64 c]) (by simp [results, Try.results64, go_sem, x0, x1, x2, x3, x4, x5, x6, x7]) rfl ⟨s, c, rfl, hbs, hc9, ?_⟩
    exact ((((((((((((Below.refl w.heap.size w).alloc (Nat.le_refl _) _).alloc (by simp) _).grown HG.out (by simp; omega) (fun g e => by cases e; omega)).grown G6 (by omega) (fun g e => by cases e; omega)).setCell (by simp) _).setCell (by simp) _).setCell (by simp) _).setCell (by simp) _).setCell (by simp) _).setCell (by simp) _).setCell (by simp) _).setCell (by simp) _
end Go.Proofs.Ytklilfbokpljkab
