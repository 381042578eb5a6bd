/- The specification's draws for the laws on votes. -/
import Derived.Test.YtoogofceoinniabVdB
import Derived.Test.YtoogofceoinniabVoH
namespace Go.Proofs.Ytoogofceoinniab
open Go.ChangeShapes Go.WideShapes Go.ChangeAt Go.RowKit Go.ChangeMaps
set_option linter.unusedSimpArgs false
set_option linter.unusedVariables false
set_option linter.unusedSimpArgs false
set_option linter.unusedVariables false

/-- Arrivals that a draw gives. -/
structure DrAr (w w' : World) (v : Value) (xs : List GArrival) : Prop where
  own : ArrivalO w' w.heap.size w'.heap.size v xs
  len : xs.length ≤ 12
  bd : ∀ s ∈ xs, BdA s
  below : Below w.heap.size w w'
theorem Adl.drawn {w w' : World} {o : Obj} {B k : Nat} {v : Value} {xs : List GArrival} (h : Adl (w.alloc o) w' B w.heap.size k v xs) : DrAr w w' v xs :=
  ⟨h.own.mono (by simp) (Nat.le_refl _), h.len, h.bd, grown_below h.gr⟩
theorem DrAr.drewN {w w' : World} {v : Value} {xs : List GArrival} (h : DrAr w w' v xs) (n : Nat) : DrAr w (w'.drewN n) v xs :=
  ⟨h.own, h.len, h.bd, drewN_b h.below n⟩
theorem cur_new1V (w : World) (o : Obj) (B : Nat) (ao : Option Addr) (n cap : Nat) (hB : B ≤ w.heap.size) (hn : n ≤ 65536) (hc : Code w B ao n) :
    Cur ((w.alloc o).alloc (.cells #[.slice ao n cap, .int .i64 0, .int .u64 0] 106)) B (w.heap.size + 1) 0 := by
  have h := cur_new (w.alloc o) B ao n cap (by simp; omega) hn (hc.keep fun bb o' hbb => ((Below.refl B w).alloc hB o).cell (p := ⟨bb, o', none⟩) hbb)
  rwa [World.size_alloc] at h
theorem cur_new2V (w : World) (o p : Obj) (B : Nat) (ao : Option Addr) (n cap : Nat) (hB : B ≤ w.heap.size) (hn : n ≤ 65536) (hc : Code w B ao n) :
    Cur (((w.alloc o).alloc p).alloc (.cells #[.slice ao n cap, .int .i64 0, .int .u64 0] 106)) B (w.heap.size + 2) 0 := by
  have h := cur_new1V (w.alloc o) p B ao n cap (by simp; omega) hn (hc.keep fun bb o' hbb => ((Below.refl B w).alloc hB o).cell (p := ⟨bb, o', none⟩) hbb)
  rwa [World.size_alloc] at h
set_option maxRecDepth 100000 in
set_option maxHeartbeats 2000000 in
theorem drawMV (w : World) (B : Nat) (v : Value) (h : CodeArg w B v) :
    Calls Try.prog 47 #[v] w fun e w' => ∃ (v' : Value) (xs : List GArrival) (x y : Int), e = .returned (.tuple #[v', .int .i64 x, .int .i64 y]) ∧ (-1 ≤ x ∧ x ≤ 2000000) ∧ (-1 ≤ y ∧ y ≤ 2000000) ∧ DrAr w w' v' xs := by
  obtain ⟨h0, ao, n, cap, rfl, h2, h3⟩ := h
  have hcu := cur_new w B ao n cap h0 h2 h3
  have hbw : w.heap.size < (w.alloc (.cells #[.slice ao n cap, .int .i64 0, .int .u64 0] 106)).heap.size := by simp
  clear h3
  go_enter Try.func47, Try.ntmps47
  go_wp2_with fail
  refine (cur_arrivals _ B w.heap.size 0 hcu (by omega)).mono ?_
  rintro e w1 ⟨v1, xs, rfl, hS⟩
  obtain ⟨g1, cap1, rfl⟩ := hS.form
  have HS1 := Lib.hid hS
  clear hS hcu
  go_wp2_with fail
  refine (cur_quake _ B w.heap.size _ HS1.out.cur (by omega)).mono ?_
  rintro e w2 ⟨oq, rfl, hoq, hc, hg⟩
  have HS2 := Lib.hid (HS1.out.draw hbw hg hc)
  clear HS1 hc hg
  have HS3 := Lib.hid (HS2.out.alloc (.cells #[.int .i64 oq.pX, .int .i64 oq.pY, .int .i64 oq.pTick] 30))
  have bO := Bx.new w2 [.int .i64 oq.pX, .int .i64 oq.pY, .int .i64 oq.pTick] 30
  obtain ⟨⟨ox0, ox1⟩, ⟨oy0, oy1⟩, -⟩ := hoq
  have x0 := bO.2 0 _ rfl
  have x1 := bO.2 1 _ rfl
  have xf := bO.1.2
  go_wp2
  go_quiet (fail)
  go_wp2
  go_ret3
  exact ⟨_, xs, oq.pX, oq.pY, rfl, ⟨ox0, by omega⟩, ⟨by omega, by omega⟩, HS3.out.drawn.drewN nq⟩
set_option maxRecDepth 100000 in
set_option maxHeartbeats 2000000 in
theorem cur_step (w : World) (B b k : Nat) (h : Cur w B b k) (hk : k ≤ 700000) :
    Calls Try.prog 83 #[.pointer (some ⟨b, 0, none⟩)] w fun e w' => ∃ s : Int, e = .returned (.int .i64 s) ∧ (0 ≤ s ∧ s ≤ 501) ∧ Cur w' B b (k + 2) ∧ w.grownBy w' (some b) := by
  have z := h.lt
  go_enter Try.func83, Try.ntmps83
  go_wp2_with fail
  refine (cur_among _ B b _ (h.alloc _) (by omega) _ _ (ints_lit w b z 3 8 [100, 100, 200, 250, 500, 333, 501, 0]) (by simp) (by simp)).mono ?_
  rintro e w1 ⟨s, rfl, hx, hc, hg⟩
  have hs : 0 ≤ s ∧ s ≤ 501 := by
    revert s
    decide
  go_wp2
  go_ret
  exact ⟨s, rfl, hs, hc, (grown_alloc _ _ _).trans hg⟩
set_option maxRecDepth 100000 in
set_option maxHeartbeats 2000000 in
theorem drawBG (w : World) (B : Nat) (v : Value) (h : CodeArg w B v) :
    Calls Try.prog 46 #[v] w fun e w' => ∃ (v' : Value) (xs : List GArrival) (s : Int), e = .returned (.tuple #[v', .int .i64 s]) ∧ (0 ≤ s ∧ s ≤ 501) ∧ DrAr w w' v' xs := by
  obtain ⟨h0, ao, n, cap, rfl, h2, h3⟩ := h
  have hcu := cur_new w B ao n cap h0 h2 h3
  have hbw : w.heap.size < (w.alloc (.cells #[.slice ao n cap, .int .i64 0, .int .u64 0] 106)).heap.size := by simp
  clear h3
  go_enter Try.func46, Try.ntmps46
  go_wp2_with fail
  refine (cur_arrivals _ B w.heap.size 0 hcu (by omega)).mono ?_
  rintro e w1 ⟨v1, xs, rfl, hS⟩
  obtain ⟨g1, cap1, rfl⟩ := hS.form
  have HS1 := Lib.hid hS
  clear hS hcu
  go_wp2_with fail
  refine (cur_step _ B w.heap.size _ HS1.out.cur (by omega)).mono ?_
  rintro e w2 ⟨s, rfl, hs, hc, hg⟩
  have HS2 := Lib.hid (HS1.out.draw hbw hg hc)
  clear HS1 hc hg
  go_wp2
  go_ret2
  exact ⟨_, xs, s, rfl, hs, HS2.out.drawn⟩
set_option maxRecDepth 100000 in
set_option maxHeartbeats 2000000 in
theorem drawEF (w : World) (B : Nat) (v : Value) (h : CodeArg w B v) :
    Calls Try.prog 44 #[v] w fun e w' => ∃ (v' : Value) (xs : List GArrival) (s l : Int), e = .returned (.tuple #[v', .int .i64 s, .int .i64 l]) ∧ (0 ≤ s ∧ s ≤ 501) ∧ (0 ≤ l ∧ l ≤ 9) ∧ DrAr w w' v' xs := by
  obtain ⟨h0, ao, n, cap, rfl, h2, h3⟩ := h
  have hcu := cur_new w B ao n cap h0 h2 h3
  have hbw : w.heap.size < (w.alloc (.cells #[.slice ao n cap, .int .i64 0, .int .u64 0] 106)).heap.size := by simp
  clear h3
  go_enter Try.func44, Try.ntmps44
  go_wp2_with fail
  refine (cur_arrivals _ B w.heap.size 0 hcu (by omega)).mono ?_
  rintro e w1 ⟨v1, xs, rfl, hS⟩
  obtain ⟨g1, cap1, rfl⟩ := hS.form
  have HS1 := Lib.hid hS
  clear hS hcu
  go_wp2_with fail
  refine (cur_step _ B w.heap.size _ HS1.out.cur (by omega)).mono ?_
  rintro e w2 ⟨s, rfl, hs, hc, hg⟩
  have HS2 := Lib.hid (HS1.out.draw hbw hg hc)
  have zc := hc.lt
  clear HS1 hg
  go_wp2_with fail
  refine (cur_among _ B w.heap.size _ (hc.alloc _) (by omega) _ _ (ints_lit w2 w.heap.size zc 3 7 [1, 2, 2, 3, 8, 0, 9]) (by simp) (by simp)).mono ?_
  rintro e w3 ⟨l, rfl, hx, hc3, hg3⟩
  have hl : 0 ≤ l ∧ l ≤ 9 := by
    revert l
    decide
  have HS3 := Lib.hid ((HS2.out.alloc (.cells #[.int .i64 1, .int .i64 2, .int .i64 2, .int .i64 3, .int .i64 8, .int .i64 0, .int .i64 9] 3)).draw hbw hg3 hc3)
  clear HS2 hc hc3 hg3
  go_wp2
  go_ret3
  exact ⟨_, xs, s, l, rfl, hs, hl, HS3.out.drawn⟩
end Go.Proofs.Ytoogofceoinniab
