/- The nearest stations: how two stations compare. -/
import Derived.Test.YtklilfbokpljkabStaL
import Derived.Test.YtklilfbokpljkabQTail
namespace Go.Proofs.Ytklilfbokpljkab
open Go.ChangeShapes Go.WideShapes Go.ChangeAt Go.RowKit Go.ChangeMaps Go.Sort
set_option linter.unusedSimpArgs false
set_option linter.unusedVariables false

set_option maxHeartbeats 400000 in
theorem implSqG (s : GStation) (x y : Int) (w : World) (h1 : 0 ≤ s.pX ∧ s.pX ≤ 999) (h2 : 0 ≤ s.pY ∧ s.pY ≤ 999) (h3 : 0 ≤ x ∧ x ≤ 999) (h4 : 0 ≤ y ∧ y ≤ 999) :
    Calls Try.prog 102 #[.agg #[.int .i64 s.pId, .string s.pName, .int .i64 s.pX, .int .i64 s.pY, .int .i64 s.pGain, .int .i64 s.pLow, .int .i64 s.pHigh, .int .i64 s.pUntil], .int .i64 x, .int .i64 y] w fun e w' => e = .returned (.int .i64 (sqd s x y)) ∧ Grew w w' := by
  obtain ⟨h1, h1'⟩ := h1
  obtain ⟨h2, h2'⟩ := h2
  obtain ⟨h3, h3'⟩ := h3
  obtain ⟨h4, h4'⟩ := h4
  have b1 := sq_bound (d := s.pX - x) (by omega)
  have b2 := sq_bound (d := s.pY - y) (by omega)
  have CQ := Lib.hid (fun W => implSqOf (s.pX - x) (s.pY - y) _ W (by omega) (by omega) rfl)
  unfold sqd
  generalize (s.pX - x) * (s.pX - x) + (s.pY - y) * (s.pY - y) = r at *
  go_enter Try.func102, Try.ntmps102
  go_wp2_with fail
  refine (CQ.out _).mono ?_
  rintro e w1 ⟨rfl, q1⟩
  subst q1
  go_wp2
  go_ret
  exact ⟨rfl, (Grew.refl w).alloc _⟩
/-- How two stations compare, seen from a place. -/
def cmpN (x y : Int) (a b : GStation) : Int := orI (cmpI (sqd a x y) (sqd b x y)) (cmpI a.pId b.pId)
set_option maxRecDepth 100000 in
set_option maxHeartbeats 4000000 in
theorem cloNear (a b : GStation) (x y : Int) (gx gy : Nat) (w : World) (ha : goodS a = true) (hb : goodS b = true) (hx : 0 ≤ x ∧ x ≤ 999) (hy : 0 ≤ y ∧ y ≤ 999) (cx : w.cell? ⟨gx, 0, none⟩ = some (.int .i64 x)) (cy : w.cell? ⟨gy, 0, none⟩ = some (.int .i64 y)) :
    Calls Try.prog 100 #[.agg #[.int .i64 a.pId, .string a.pName, .int .i64 a.pX, .int .i64 a.pY, .int .i64 a.pGain, .int .i64 a.pLow, .int .i64 a.pHigh, .int .i64 a.pUntil], .agg #[.int .i64 b.pId, .string b.pName, .int .i64 b.pX, .int .i64 b.pY, .int .i64 b.pGain, .int .i64 b.pLow, .int .i64 b.pHigh, .int .i64 b.pUntil], .pointer (some ⟨gx, 0, none⟩), .pointer (some ⟨gy, 0, none⟩)] w fun e w' => e = .returned (.int .i64 (cmpN x y a b)) ∧ Grew w w' := by
  have ga := goodS_bounds ha
  have gb := goodS_bounds hb
  have SA := Lib.hid (fun W => implSqG a x y W (by omega) (by omega) hx hy)
  have SB := Lib.hid (fun W => implSqG b x y W (by omega) (by omega) hx hy)
  have G0 := ((Grew.refl w).alloc (.cells #[.int .i64 a.pId, .string a.pName, .int .i64 a.pX, .int .i64 a.pY, .int .i64 a.pGain, .int .i64 a.pLow, .int .i64 a.pHigh, .int .i64 a.pUntil] 60)).alloc (.cells #[.int .i64 b.pId, .string b.pName, .int .i64 b.pX, .int .i64 b.pY, .int .i64 b.pGain, .int .i64 b.pLow, .int .i64 b.pHigh, .int .i64 b.pUntil] 60)
  have qx := G0.cell cx
  have qy := G0.cell cy
  have bA := (Bx.new w [.int .i64 a.pId, .string a.pName, .int .i64 a.pX, .int .i64 a.pY, .int .i64 a.pGain, .int .i64 a.pLow, .int .i64 a.pHigh, .int .i64 a.pUntil] 60).alloc (.cells #[.int .i64 b.pId, .string b.pName, .int .i64 b.pX, .int .i64 b.pY, .int .i64 b.pGain, .int .i64 b.pLow, .int .i64 b.pHigh, .int .i64 b.pUntil] 60)
  have bB := Bx.new1 w (.cells #[.int .i64 a.pId, .string a.pName, .int .i64 a.pX, .int .i64 a.pY, .int .i64 a.pGain, .int .i64 a.pLow, .int .i64 a.pHigh, .int .i64 a.pUntil] 60) [.int .i64 b.pId, .string b.pName, .int .i64 b.pX, .int .i64 b.pY, .int .i64 b.pGain, .int .i64 b.pLow, .int .i64 b.pHigh, .int .i64 b.pUntil] 60
  have a0 : ((w.alloc (.cells #[.int .i64 a.pId, .string a.pName, .int .i64 a.pX, .int .i64 a.pY, .int .i64 a.pGain, .int .i64 a.pLow, .int .i64 a.pHigh, .int .i64 a.pUntil] 60)).alloc (.cells #[.int .i64 b.pId, .string b.pName, .int .i64 b.pX, .int .i64 b.pY, .int .i64 b.pGain, .int .i64 b.pLow, .int .i64 b.pHigh, .int .i64 b.pUntil] 60)).cell? ⟨w.heap.size, 0, none⟩ = some (.int .i64 a.pId) := bA.2 0 _ rfl
  have a1 : ((w.alloc (.cells #[.int .i64 a.pId, .string a.pName, .int .i64 a.pX, .int .i64 a.pY, .int .i64 a.pGain, .int .i64 a.pLow, .int .i64 a.pHigh, .int .i64 a.pUntil] 60)).alloc (.cells #[.int .i64 b.pId, .string b.pName, .int .i64 b.pX, .int .i64 b.pY, .int .i64 b.pGain, .int .i64 b.pLow, .int .i64 b.pHigh, .int .i64 b.pUntil] 60)).cell? ⟨w.heap.size, 1, none⟩ = some (.string a.pName) := bA.2 1 _ rfl
  have a2 : ((w.alloc (.cells #[.int .i64 a.pId, .string a.pName, .int .i64 a.pX, .int .i64 a.pY, .int .i64 a.pGain, .int .i64 a.pLow, .int .i64 a.pHigh, .int .i64 a.pUntil] 60)).alloc (.cells #[.int .i64 b.pId, .string b.pName, .int .i64 b.pX, .int .i64 b.pY, .int .i64 b.pGain, .int .i64 b.pLow, .int .i64 b.pHigh, .int .i64 b.pUntil] 60)).cell? ⟨w.heap.size, 2, none⟩ = some (.int .i64 a.pX) := bA.2 2 _ rfl
  have a3 : ((w.alloc (.cells #[.int .i64 a.pId, .string a.pName, .int .i64 a.pX, .int .i64 a.pY, .int .i64 a.pGain, .int .i64 a.pLow, .int .i64 a.pHigh, .int .i64 a.pUntil] 60)).alloc (.cells #[.int .i64 b.pId, .string b.pName, .int .i64 b.pX, .int .i64 b.pY, .int .i64 b.pGain, .int .i64 b.pLow, .int .i64 b.pHigh, .int .i64 b.pUntil] 60)).cell? ⟨w.heap.size, 3, none⟩ = some (.int .i64 a.pY) := bA.2 3 _ rfl
  have a4 : ((w.alloc (.cells #[.int .i64 a.pId, .string a.pName, .int .i64 a.pX, .int .i64 a.pY, .int .i64 a.pGain, .int .i64 a.pLow, .int .i64 a.pHigh, .int .i64 a.pUntil] 60)).alloc (.cells #[.int .i64 b.pId, .string b.pName, .int .i64 b.pX, .int .i64 b.pY, .int .i64 b.pGain, .int .i64 b.pLow, .int .i64 b.pHigh, .int .i64 b.pUntil] 60)).cell? ⟨w.heap.size, 4, none⟩ = some (.int .i64 a.pGain) := bA.2 4 _ rfl
  have a5 : ((w.alloc (.cells #[.int .i64 a.pId, .string a.pName, .int .i64 a.pX, .int .i64 a.pY, .int .i64 a.pGain, .int .i64 a.pLow, .int .i64 a.pHigh, .int .i64 a.pUntil] 60)).alloc (.cells #[.int .i64 b.pId, .string b.pName, .int .i64 b.pX, .int .i64 b.pY, .int .i64 b.pGain, .int .i64 b.pLow, .int .i64 b.pHigh, .int .i64 b.pUntil] 60)).cell? ⟨w.heap.size, 5, none⟩ = some (.int .i64 a.pLow) := bA.2 5 _ rfl
  have a6 : ((w.alloc (.cells #[.int .i64 a.pId, .string a.pName, .int .i64 a.pX, .int .i64 a.pY, .int .i64 a.pGain, .int .i64 a.pLow, .int .i64 a.pHigh, .int .i64 a.pUntil] 60)).alloc (.cells #[.int .i64 b.pId, .string b.pName, .int .i64 b.pX, .int .i64 b.pY, .int .i64 b.pGain, .int .i64 b.pLow, .int .i64 b.pHigh, .int .i64 b.pUntil] 60)).cell? ⟨w.heap.size, 6, none⟩ = some (.int .i64 a.pHigh) := bA.2 6 _ rfl
  have a7 : ((w.alloc (.cells #[.int .i64 a.pId, .string a.pName, .int .i64 a.pX, .int .i64 a.pY, .int .i64 a.pGain, .int .i64 a.pLow, .int .i64 a.pHigh, .int .i64 a.pUntil] 60)).alloc (.cells #[.int .i64 b.pId, .string b.pName, .int .i64 b.pX, .int .i64 b.pY, .int .i64 b.pGain, .int .i64 b.pLow, .int .i64 b.pHigh, .int .i64 b.pUntil] 60)).cell? ⟨w.heap.size, 7, none⟩ = some (.int .i64 a.pUntil) := bA.2 7 _ rfl
  have b0 : ((w.alloc (.cells #[.int .i64 a.pId, .string a.pName, .int .i64 a.pX, .int .i64 a.pY, .int .i64 a.pGain, .int .i64 a.pLow, .int .i64 a.pHigh, .int .i64 a.pUntil] 60)).alloc (.cells #[.int .i64 b.pId, .string b.pName, .int .i64 b.pX, .int .i64 b.pY, .int .i64 b.pGain, .int .i64 b.pLow, .int .i64 b.pHigh, .int .i64 b.pUntil] 60)).cell? ⟨w.heap.size + 1, 0, none⟩ = some (.int .i64 b.pId) := bB.2 0 _ rfl
  have b1 : ((w.alloc (.cells #[.int .i64 a.pId, .string a.pName, .int .i64 a.pX, .int .i64 a.pY, .int .i64 a.pGain, .int .i64 a.pLow, .int .i64 a.pHigh, .int .i64 a.pUntil] 60)).alloc (.cells #[.int .i64 b.pId, .string b.pName, .int .i64 b.pX, .int .i64 b.pY, .int .i64 b.pGain, .int .i64 b.pLow, .int .i64 b.pHigh, .int .i64 b.pUntil] 60)).cell? ⟨w.heap.size + 1, 1, none⟩ = some (.string b.pName) := bB.2 1 _ rfl
  have b2 : ((w.alloc (.cells #[.int .i64 a.pId, .string a.pName, .int .i64 a.pX, .int .i64 a.pY, .int .i64 a.pGain, .int .i64 a.pLow, .int .i64 a.pHigh, .int .i64 a.pUntil] 60)).alloc (.cells #[.int .i64 b.pId, .string b.pName, .int .i64 b.pX, .int .i64 b.pY, .int .i64 b.pGain, .int .i64 b.pLow, .int .i64 b.pHigh, .int .i64 b.pUntil] 60)).cell? ⟨w.heap.size + 1, 2, none⟩ = some (.int .i64 b.pX) := bB.2 2 _ rfl
  have b3 : ((w.alloc (.cells #[.int .i64 a.pId, .string a.pName, .int .i64 a.pX, .int .i64 a.pY, .int .i64 a.pGain, .int .i64 a.pLow, .int .i64 a.pHigh, .int .i64 a.pUntil] 60)).alloc (.cells #[.int .i64 b.pId, .string b.pName, .int .i64 b.pX, .int .i64 b.pY, .int .i64 b.pGain, .int .i64 b.pLow, .int .i64 b.pHigh, .int .i64 b.pUntil] 60)).cell? ⟨w.heap.size + 1, 3, none⟩ = some (.int .i64 b.pY) := bB.2 3 _ rfl
  have b4 : ((w.alloc (.cells #[.int .i64 a.pId, .string a.pName, .int .i64 a.pX, .int .i64 a.pY, .int .i64 a.pGain, .int .i64 a.pLow, .int .i64 a.pHigh, .int .i64 a.pUntil] 60)).alloc (.cells #[.int .i64 b.pId, .string b.pName, .int .i64 b.pX, .int .i64 b.pY, .int .i64 b.pGain, .int .i64 b.pLow, .int .i64 b.pHigh, .int .i64 b.pUntil] 60)).cell? ⟨w.heap.size + 1, 4, none⟩ = some (.int .i64 b.pGain) := bB.2 4 _ rfl
  have b5 : ((w.alloc (.cells #[.int .i64 a.pId, .string a.pName, .int .i64 a.pX, .int .i64 a.pY, .int .i64 a.pGain, .int .i64 a.pLow, .int .i64 a.pHigh, .int .i64 a.pUntil] 60)).alloc (.cells #[.int .i64 b.pId, .string b.pName, .int .i64 b.pX, .int .i64 b.pY, .int .i64 b.pGain, .int .i64 b.pLow, .int .i64 b.pHigh, .int .i64 b.pUntil] 60)).cell? ⟨w.heap.size + 1, 5, none⟩ = some (.int .i64 b.pLow) := bB.2 5 _ rfl
  have b6 : ((w.alloc (.cells #[.int .i64 a.pId, .string a.pName, .int .i64 a.pX, .int .i64 a.pY, .int .i64 a.pGain, .int .i64 a.pLow, .int .i64 a.pHigh, .int .i64 a.pUntil] 60)).alloc (.cells #[.int .i64 b.pId, .string b.pName, .int .i64 b.pX, .int .i64 b.pY, .int .i64 b.pGain, .int .i64 b.pLow, .int .i64 b.pHigh, .int .i64 b.pUntil] 60)).cell? ⟨w.heap.size + 1, 6, none⟩ = some (.int .i64 b.pHigh) := bB.2 6 _ rfl
  have b7 : ((w.alloc (.cells #[.int .i64 a.pId, .string a.pName, .int .i64 a.pX, .int .i64 a.pY, .int .i64 a.pGain, .int .i64 a.pLow, .int .i64 a.pHigh, .int .i64 a.pUntil] 60)).alloc (.cells #[.int .i64 b.pId, .string b.pName, .int .i64 b.pX, .int .i64 b.pY, .int .i64 b.pGain, .int .i64 b.pLow, .int .i64 b.pHigh, .int .i64 b.pUntil] 60)).cell? ⟨w.heap.size + 1, 7, none⟩ = some (.int .i64 b.pUntil) := bB.2 7 _ rfl
  generalize hres : cmpN x y a b = res
  unfold cmpN at hres
  have HR := Lib.hid hres
  clear hres
  clear ha hb ga gb hx hy cx cy bA bB
  go_enter Try.func100, Try.ntmps100
  go_wp2
  generalize hW0 : (w.alloc (.cells #[.int .i64 a.pId, .string a.pName, .int .i64 a.pX, .int .i64 a.pY, .int .i64 a.pGain, .int .i64 a.pLow, .int .i64 a.pHigh, .int .i64 a.pUntil] 60)).alloc (.cells #[.int .i64 b.pId, .string b.pName, .int .i64 b.pX, .int .i64 b.pY, .int .i64 b.pGain, .int .i64 b.pLow, .int .i64 b.pHigh, .int .i64 b.pUntil] 60) = W0 at *
  have HW0 := Lib.hid hW0
  clear hW0
  have cA := fun n os => Calls.gr_of (w := W0) (n := n) (os := os) (SA.out _)
  have cB := fun n os => Calls.gr_of (w := W0) (n := n) (os := os) (SB.out _)
  have cD := fun n os => Calls.gr_of (w := W0) (n := n) (os := os) ((cmpCompare (sqd a x y) (sqd b x y) _).mono fun e w' ⟨h, hw⟩ => ⟨h, hw ▸ Grew.refl _⟩)
  have cI := fun n os => Calls.gr_of (w := W0) (n := n) (os := os) ((cmpCompare a.pId b.pId _).mono fun e w' ⟨h, hw⟩ => ⟨h, hw ▸ Grew.refl _⟩)
  have r_a0 := cell_gr a0
  have r_a1 := cell_gr a1
  have r_a2 := cell_gr a2
  have r_a3 := cell_gr a3
  have r_a4 := cell_gr a4
  have r_a5 := cell_gr a5
  have r_a6 := cell_gr a6
  have r_a7 := cell_gr a7
  have r_b0 := cell_gr b0
  have r_b1 := cell_gr b1
  have r_b2 := cell_gr b2
  have r_b3 := cell_gr b3
  have r_b4 := cell_gr b4
  have r_b5 := cell_gr b5
  have r_b6 := cell_gr b6
  have r_b7 := cell_gr b7
  have r_qx := cell_gr qx
  have r_qy := cell_gr qy
  generalize sqd a x y = da at *
  generalize sqd b x y = db at *
  generalize cmpI da db = r1 at *
  generalize cmpI a.pId b.pId = r2 at *
  refine region_gr_tail 14 (by kernel_rfl) (by kernel_rfl) ?_
  simp only [List.take_succ_cons, List.take_zero, List.drop_succ_cons, List.drop_zero]
  repeat (go_big_quiet_step (first | with_reducible exact cA _ _ | with_reducible exact cB _ _ | with_reducible exact cD _ _ | with_reducible exact cI _ _))
  refine wpQuiet_nil ?_
  intro _ hw'
  obtain ⟨⟨nq, osq⟩, hw''⟩ := hw'
  subst hw''
  have GQ : Grew W0 (grow (W0.drewN nq) osq) := ⟨nq, osq, rfl⟩
  have G1 := G0.trans GQ
  generalize grow (W0.drewN nq) osq = w2 at *
  clear cA cB cD cI GQ r_a0 r_a1 r_a2 r_a3 r_a4 r_a5 r_a6 r_a7 r_b0 r_b1 r_b2 r_b3 r_b4 r_b5 r_b6 r_b7 r_qx r_qy
  have bS := Bx.new w2 [.int .i64 r1, .int .i64 r2] 3
  have s0 := bS.2 0 _ rfl
  have s1 := bS.2 1 _ rfl
  go_wp2_with (go_at_call 101; refine (cmpOr r1 r2 _ _ s0 s1).mono ?_; rintro e wo ⟨rfl, rfl⟩)
  go_ret
  exact ⟨ret_int HR.out, G1.alloc _⟩
end Go.Proofs.Ytklilfbokpljkab
