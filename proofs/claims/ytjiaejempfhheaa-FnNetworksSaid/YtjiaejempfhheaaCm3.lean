/- How two rows of three numbers compare. -/
import Derived.Test.YtjiaejempfhheaaPairP
import Derived.Test.YtjiaejempfhheaaStaN
namespace Go.Proofs.Ytjiaejempfhheaa
open Go.ChangeShapes Go.WideShapes Go.ChangeAt Go.RowKit Go.ChangeMaps Go.Sort
set_option linter.unusedSimpArgs false
set_option linter.unusedVariables false

def cmp3 (a0 a1 a2 b0 b1 b2 : Int) : Int := orI (cmpI a0 b0) (orI (cmpI a1 b1) (cmpI a2 b2))
set_option maxHeartbeats 1000000 in
theorem slcCmp (a0 a1 a2 b0 b1 b2 : Int) (ga gb : Nat) (w : World) (hA : Bx w ga [.int .i64 a0, .int .i64 a1, .int .i64 a2]) (hB : Bx w gb [.int .i64 b0, .int .i64 b1, .int .i64 b2]) :
    Calls Try.prog 95 #[.slice (some ⟨ga, 0, none⟩) 3 3, .slice (some ⟨gb, 0, none⟩) 3 3] w fun e w' => e = .returned (.int .i64 (cmp3 a0 a1 a2 b0 b1 b2)) ∧ w = w' := by
  unfold cmp3
  have x0 := hA.2 0 _ rfl
  have x1 := hA.2 1 _ rfl
  have x2 := hA.2 2 _ rfl
  have y0 := hB.2 0 _ rfl
  have y1 := hB.2 1 _ rfl
  have y2 := hB.2 2 _ rfl
  have C0 := Lib.hid (fun W => cmpCompare a0 b0 W)
  have C1 := Lib.hid (fun W => cmpCompare a1 b1 W)
  have C2 := Lib.hid (fun W => cmpCompare a2 b2 W)
  generalize cmpI a0 b0 = r0 at *
  generalize cmpI a1 b1 = r1 at *
  generalize cmpI a2 b2 = r2 at *
  clear hA hB
  generalize hres : orI r0 (orI r1 r2) = res
  have HR := Lib.hid hres
  clear hres
  go_enter Try.func95, Try.ntmps95
  go_wp2
  go_loop [11] (fun i => i = .int .i64 0 ∨ (i = .int .i64 1 ∧ Hid (r0 = 0)) ∨ (i = .int .i64 2 ∧ Hid (r0 = 0 ∧ r1 = 0)) ∨ (i = .int .i64 3 ∧ Hid (r0 = 0 ∧ r1 = 0 ∧ r2 = 0))) (fun i => (3 - intOf i).toNat)
  case atStart => exact Or.inl rfl
  case round =>
    rcases hrel with rfl | ⟨rfl, H⟩ | ⟨rfl, H⟩ | ⟨rfl, H⟩
    · go_wp2_with fail
      refine (C0.out _).mono ?_
      rintro e w' ⟨rfl, rfl⟩
      by_cases hb : r0 = 0
      · have hb1 : (r0 == 0) = true := by simp [hb]
        have hb2 : (r0 != 0) = false := by simp [hb]
        have HB := Lib.hid hb
        clear hb
        go_wp2
        go_round
        case rel => exact Or.inr (Or.inl ⟨rfl, HB⟩)
        case measure => simp [intOf]
      · have hb1 : (r0 == 0) = false := by simp [hb]
        have hb2 : (r0 != 0) = true := by simp [hb]
        have HB := Lib.hid hb
        clear hb
        go_wp2
        go_ret
        exact ⟨ret_int (by rw [← HR.out]; unfold orI; rw [if_neg HB.out]), rfl⟩
    · go_wp2_with fail
      refine (C1.out _).mono ?_
      rintro e w' ⟨rfl, rfl⟩
      by_cases hb : r1 = 0
      · have hb1 : (r1 == 0) = true := by simp [hb]
        have hb2 : (r1 != 0) = false := by simp [hb]
        have HB := Lib.hid (And.intro H.out hb)
        clear hb
        go_wp2
        go_round
        case rel => exact Or.inr (Or.inr (Or.inl ⟨rfl, HB⟩))
        case measure => simp [intOf]
      · have hb1 : (r1 == 0) = false := by simp [hb]
        have hb2 : (r1 != 0) = true := by simp [hb]
        have HB := Lib.hid hb
        clear hb
        go_wp2
        go_ret
        exact ⟨ret_int (by rw [← HR.out]; unfold orI; rw [if_pos H.out, if_neg HB.out]), rfl⟩
    · go_wp2_with fail
      refine (C2.out _).mono ?_
      rintro e w' ⟨rfl, rfl⟩
      by_cases hb : r2 = 0
      · have hb1 : (r2 == 0) = true := by simp [hb]
        have hb2 : (r2 != 0) = false := by simp [hb]
        have HB := Lib.hid (And.intro H.out.1 (And.intro H.out.2 hb))
        clear hb
        go_wp2
        go_round
        case rel => exact Or.inr (Or.inr (Or.inr ⟨rfl, HB⟩))
        case measure => simp [intOf]
      · have hb1 : (r2 == 0) = false := by simp [hb]
        have hb2 : (r2 != 0) = true := by simp [hb]
        clear hb
        go_wp2
        go_ret
        exact ⟨ret_int (by rw [← HR.out]; unfold orI; rw [if_pos H.out.1, if_pos H.out.2]), rfl⟩
    · go_wp2
      go_ret
      exact ⟨ret_int (by rw [← HR.out]; unfold orI; rw [if_pos H.out.1, if_pos H.out.2.1]; exact H.out.2.2.symm), rfl⟩
/-- How two pairs compare. -/
def cmpP (p q : GPair) : Int := orI (cmpI (dP p) (dP q)) (cmp3 p.1.pId p.2.pId (dP p) q.1.pId q.2.pId (dP q))
theorem cmpP_lt {p q : GPair} : cmpP p q < 0 ↔ ltP p q := by
  unfold cmpP cmp3 orI cmpI ltP
  by_cases h1 : dP p < dP q <;> by_cases h2 : dP q < dP p <;> by_cases h3 : p.1.pId < q.1.pId <;> by_cases h4 : q.1.pId < p.1.pId <;> by_cases h5 : p.2.pId < q.2.pId <;> by_cases h6 : q.2.pId < p.2.pId <;> simp [h1, h2, h3, h4, h5, h6] <;> omega
def cellsQ (p : GPair) : List Value := [.int .i64 p.1.pId, .int .i64 p.2.pId, .int .i64 (dP p)]
set_option maxRecDepth 100000 in
set_option maxHeartbeats 2000000 in
theorem cloPair (p q : GPair) (ga gb : Nat) (w : World) (hA : Bx w ga (cellsQ p)) (hB : Bx w gb (cellsQ q)) :
    Calls Try.prog 94 #[.slice (some ⟨ga, 0, none⟩) 3 3, .slice (some ⟨gb, 0, none⟩) 3 3] w fun e w' => e = .returned (.int .i64 (cmpP p q)) ∧ Grew w w' := by
  unfold cellsQ at hA hB
  have r_a2 := cell_gr (hA.2 2 _ rfl)
  have r_b2 := cell_gr (hB.2 2 _ rfl)
  have cS := fun n os => Calls.gr_of (w := w) (n := n) (os := os) ((slcCmp p.1.pId p.2.pId (dP p) q.1.pId q.2.pId (dP q) ga gb _ (hA.below (Grew.below ⟨n, os, rfl⟩)) (hB.below (Grew.below ⟨n, os, rfl⟩))).mono fun e w' ⟨h, hw⟩ => ⟨h, hw ▸ Grew.refl _⟩)
  have cD := fun n os => Calls.gr_of (w := w) (n := n) (os := os) ((cmpCompare (dP p) (dP q) _).mono fun e w' ⟨h, hw⟩ => ⟨h, hw ▸ Grew.refl _⟩)
  generalize hres : cmpP p q = res
  unfold cmpP at hres
  have HR := Lib.hid hres
  clear hres
  generalize cmp3 p.1.pId p.2.pId (dP p) q.1.pId q.2.pId (dP q) = r2 at *
  generalize cmpI (dP p) (dP q) = r1 at *
  generalize dP p = da at *
  generalize dP q = db at *
  clear hA hB
  go_enter Try.func94, Try.ntmps94
  go_wp2
  refine region_gr_tail 10 (by kernel_rfl) (by kernel_rfl) ?_
  simp only [List.take_succ_cons, List.take_zero, List.drop_succ_cons, List.drop_zero]
  repeat (go_big_quiet_step (first | with_reducible exact cS _ _ | with_reducible exact cD _ _))
  refine wpQuiet_nil ?_
  intro _ hw'
  obtain ⟨⟨nq, osq⟩, hw''⟩ := hw'
  subst hw''
  have G1 : Grew w (grow (w.drewN nq) osq) := ⟨nq, osq, rfl⟩
  generalize grow (w.drewN nq) osq = w2 at *
  clear cS cD r_a2 r_b2
  have bS := Bx.new w2 [.int .i64 r1, .int .i64 r2] 3
  have s0 := bS.2 0 _ rfl
  have s1 := bS.2 1 _ rfl
  go_wp2_with (go_at_call 70; refine (cmpOr r1 r2 _ _ s0 s1).mono ?_; rintro e wo ⟨rfl, rfl⟩)
  go_ret
  exact ⟨ret_int HR.out, G1.alloc _⟩
end Go.Proofs.Ytjiaejempfhheaa
