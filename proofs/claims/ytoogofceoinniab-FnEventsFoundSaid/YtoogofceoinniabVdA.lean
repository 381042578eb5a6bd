/- The specification's draws of origins. -/
import Derived.Test.YtoogofceoinniabCurG
import Derived.Test.YtoogofceoinniabVoB
import Derived.Test.YtoogofceoinniabFOrigin
import Derived.Test.YtoogofceoinniabFArrival
import Derived.Deep.CutBlock
import Derived.Deep.CutRange
import Derived.Deep.DeepCutAuto
namespace Go.Proofs.Ytoogofceoinniab
open Go.ChangeShapes Go.WideShapes Go.ChangeAt Go.RowKit Go.ChangeMaps
set_option linter.unusedSimpArgs false
set_option linter.unusedVariables false
set_option linter.unusedSimpArgs false
set_option linter.unusedVariables false

def BdO (o : GOrigin) : Prop := (-1 ≤ o.pX ∧ o.pX ≤ 1000) ∧ (0 ≤ o.pY ∧ o.pY ≤ 1000) ∧ (0 ≤ o.pTick ∧ o.pTick ≤ 1000001)
theorem BdO.wf {o : GOrigin} (h : BdO o) : wfOrigin o := by unfold BdO at h; unfold wfOrigin I64; omega
/-- The cursor, and a box that is new. -/
structure Bst (w0 w : World) (B b k rb : Nat) (cs : List Value) : Prop where
  bx : Bx w rb cs
  cur : Cur w B b k
  gr : w0.grownBy w (some b)
  new : w0.heap.size ≤ rb ∧ b < w0.heap.size
theorem Bst.alloc {w0 w : World} {B b k rb : Nat} {cs : List Value} (h : Bst w0 w B b k rb cs) (o : Obj) : Bst w0 (w.alloc o) B b k rb cs := ⟨h.bx.alloc o, h.cur.alloc o, h.gr.trans (grown_alloc _ _ _), h.new⟩
theorem Bst.draw {w0 w w' : World} {B b k k' rb : Nat} {cs : List Value} (h : Bst w0 w B b k rb cs) (hg : w.grownBy w' (some b)) (hc : Cur w' B b k') : Bst w0 w' B b k' rb cs := ⟨h.bx.grown hg (by have := h.new; intro e; cases e; omega), hc, h.gr.trans hg, h.new⟩
theorem Bst.mono {w0 w : World} {B b k k' rb : Nat} {cs : List Value} (h : Bst w0 w B b k rb cs) (hk : k ≤ k') : Bst w0 w B b k' rb cs := ⟨h.bx, h.cur.mono hk, h.gr, h.new⟩
theorem Bst.put3 {w0 w : World} {B b k rb : Nat} {x y z : Value} (h : Bst w0 w B b k rb [x, y, z]) (x' y' z' : Value) : Bst w0 (((w.setCell ⟨rb, 0, none⟩ x').setCell ⟨rb, 1, none⟩ y').setCell ⟨rb, 2, none⟩ z') B b k rb [x', y', z'] :=
  ⟨h.bx.put3 x' y' z', curSet (curSet (curSet h.cur (by have := h.new; show b < rb; omega) _) (by have := h.new; show b < rb; omega) _) (by have := h.new; show b < rb; omega) _, setP (setP (setP h.gr h.new.1 _) h.new.1 _) h.new.1 _, h.new⟩
theorem Bst.other3 {w0 w : World} {B b k rb g : Nat} {cs : List Value} (h : Bst w0 w B b k rb cs) (hg : w0.heap.size ≤ g ∧ g ≠ rb) (x' y' z' : Value) : Bst w0 (((w.setCell ⟨g, 0, none⟩ x').setCell ⟨g, 1, none⟩ y').setCell ⟨g, 2, none⟩ z') B b k rb cs :=
  ⟨h.bx.other3 hg.2 x' y' z', curSet (curSet (curSet h.cur (by have := h.new; show b < g; omega) _) (by have := h.new; show b < g; omega) _) (by have := h.new; show b < g; omega) _, setP (setP (setP h.gr hg.1 _) hg.1 _) hg.1 _, h.new⟩
theorem ints_lit1V (w : World) (o : Obj) (b : Nat) (hb : b < (w.alloc o).heap.size) (T : TypeId) (cap : Nat) (xs : List Int) :
    OfInts ((w.alloc o).alloc (.cells (xs.map (Value.int .i64)).toArray T)) b (.slice (some ⟨w.heap.size + 1, 0, none⟩) xs.length cap) xs := by
  have h := ints_lit (w.alloc o) b hb T cap xs
  rwa [World.size_alloc] at h
set_option maxRecDepth 100000 in
set_option maxHeartbeats 4000000 in
theorem cur_quake (w : World) (B b k : Nat) (h : Cur w B b k) (hk : k ≤ 700000) :
    Calls Try.prog 85 #[.pointer (some ⟨b, 0, none⟩)] w fun e w' => ∃ o : GOrigin, e = .returned (aggO o) ∧ BdO o ∧ Cur w' B b (k + 12) ∧ w.grownBy w' (some b) := by
  have hbw := h.lt
  have HS0 : Hid (Bst w (w.alloc (.cells #[.int .i64 0, .int .i64 0, .int .i64 0] 30)) B b k w.heap.size [.int .i64 0, .int .i64 0, .int .i64 0]) := Lib.hid ⟨Bx.new w [.int .i64 0, .int .i64 0, .int .i64 0] 30, h.alloc _, grown_alloc w _ _, Nat.le_refl _, hbw⟩
  have z0 : b < (w.alloc (.cells #[.int .i64 0, .int .i64 0, .int .i64 0] 30)).heap.size := by simp; omega
  clear h
  go_enter Try.func85, Try.ntmps85
  go_wp2_with fail
  refine (cur_among _ B b _ (HS0.out.cur.alloc _) (by omega) _ _ (by simpa using ints_lit1V w (.cells #[.int .i64 0, .int .i64 0, .int .i64 0] 30) b z0 3 6 [0, 100, 200, 330, 400, 999]) (by simp) (by simp)).mono ?_
  rintro e w1 ⟨x, rfl, hx, hc, hg⟩
  have hbx : 0 ≤ x ∧ x ≤ 999 := by
    revert x
    decide
  have HS1 := Lib.hid ((HS0.out.alloc _).draw hg hc)
  clear HS0 hc hg hx 
  have z2 := HS1.out.cur.lt
  go_wp2_with fail
  refine (cur_among _ B b _ (HS1.out.cur.alloc _) (by omega) _ _ (ints_lit w1 b z2 3 5 [0, 50, 200, 400, 700]) (by simp) (by simp)).mono ?_
  rintro e w2 ⟨y, rfl, hx, hc, hg⟩
  have hby : 0 ≤ y ∧ y ≤ 1000 := by
    revert y
    decide
  have HS2 := Lib.hid ((HS1.out.alloc _).draw hg hc)
  clear HS1 hc hg hx z2 
  have z3 := HS2.out.cur.lt
  go_wp2_with fail
  refine (cur_among _ B b _ (HS2.out.cur.alloc _) (by omega) _ _ (ints_lit w2 b z3 3 4 [0, 1000, 5000, 60000]) (by simp) (by simp)).mono ?_
  rintro e w3 ⟨t, rfl, hx, hc, hg⟩
  have hbt : 0 ≤ t ∧ t ≤ 1000001 := by
    revert t
    decide
  have HS3 := Lib.hid ((HS2.out.alloc _).draw hg hc)
  clear HS2 hc hg hx z3 
  have bO := Bx.new w3 [.int .i64 x, .int .i64 y, .int .i64 t] 30
  have HS4 := Lib.hid (HS3.out.alloc (.cells #[.int .i64 x, .int .i64 y, .int .i64 t] 30))
  have hgo : w.heap.size < w3.heap.size := HS3.out.bx.1.1
  clear HS3
  go_wp2_with fail
  refine (cur_one _ B b _ 40 HS4.out.cur (by omega) (by omega) (by omega)).mono ?_
  rintro e w5 ⟨yes, rfl, hc, hg⟩
  have HS5 := Lib.hid (HS4.out.draw hg hc)
  have bO5 := bO.grown hg (by intro e; cases e; omega)
  have y5 := hg.size
  clear HS4 hc hg bO
  cases yes with
  | false =>
    have HSF := Lib.hid HS5.out
    have q0 := bO5.2 0 _ rfl
    have q1 := bO5.2 1 _ rfl
    have q2 := bO5.2 2 _ rfl
    have r0 := HSF.out.bx.2 0 _ rfl
    have r1 := HSF.out.bx.2 1 _ rfl
    have r2 := HSF.out.bx.2 2 _ rfl
    have rf := HSF.out.bx.1.2
    have HSZ := Lib.hid (HSF.out.put3 (.int .i64 x) (.int .i64 y) (.int .i64 t))
    go_wp2
    have y0 := HSZ.out.bx.2 0 _ rfl
    have y1 := HSZ.out.bx.2 1 _ rfl
    have y2 := HSZ.out.bx.2 2 _ rfl
    exact bodyPost_ret (v := .agg #[.int .i64 x, .int .i64 y, .int .i64 t]) (by simp [results, Try.results85, go_sem, y0, y1, y2]) rfl ⟨⟨x, y, t⟩, rfl, by unfold BdO; simp only; omega, HSZ.out.cur.mono (by omega), HSZ.out.gr⟩
  | true =>
    have z6 := HS5.out.cur.lt
    go_wp2_with fail
    refine (cur_among _ B b _ (HS5.out.cur.alloc _) (by omega) _ _ (ints_lit w5 b z6 3 2 [-1, 1000]) (by simp) (by simp)).mono ?_
    rintro e w6 ⟨x2, rfl, hx, hc, hg⟩
    have hbx2 : -1 ≤ x2 ∧ x2 ≤ 1000 := by
      revert x2
      decide
    have HS6 := Lib.hid ((HS5.out.alloc _).draw hg hc)
    have bO6 := (bO5.alloc (.cells #[.int .i64 (-1), .int .i64 1000] 3)).grown hg (by intro e; cases e; omega)
    clear HS5 hc hg hx z6 bO5
    have z7 := HS6.out.cur.lt
    go_wp2_with fail
    refine (cur_among _ B b _ (HS6.out.cur.alloc _) (by omega) _ _ (ints_lit w6 b z7 3 2 [0, 1000001]) (by simp) (by simp)).mono ?_
    rintro e w7 ⟨t2, rfl, hx, hc, hg⟩
    have hbt2 : 0 ≤ t2 ∧ t2 ≤ 1000001 := by
      revert t2
      decide
    have HS7 := Lib.hid ((HS6.out.alloc _).draw hg hc)
    have bO7 := (bO6.alloc (.cells #[.int .i64 0, .int .i64 1000001] 3)).grown hg (by intro e; cases e; omega)
    clear HS6 hc hg hx z7 bO6
    have q0 := bO7.2 0 _ rfl
    have q1 := bO7.2 1 _ rfl
    have q2 := bO7.2 2 _ rfl
    have qf := bO7.1.2
    have ne1 : ¬ w.heap.size = w3.heap.size := by omega
    have ne2 : ¬ w3.heap.size = w.heap.size := by omega
    have bO8 := bO7.put3 (.int .i64 x2) (.int .i64 0) (.int .i64 t2)
    have HSF := Lib.hid (HS7.out.other3 (g := w3.heap.size) (by omega) (.int .i64 x2) (.int .i64 0) (.int .i64 t2))
    have u0 := HS7.out.bx.2 0 _ rfl
    have u1 := HS7.out.bx.2 1 _ rfl
    have u2 := HS7.out.bx.2 2 _ rfl
    have uf := HS7.out.bx.1.2
    clear HS7
    have r0 := HSF.out.bx.2 0 _ rfl
    have r1 := HSF.out.bx.2 1 _ rfl
    have r2 := HSF.out.bx.2 2 _ rfl
    have rf := HSF.out.bx.1.2
    have HSZ := Lib.hid (HSF.out.put3 (.int .i64 x2) (.int .i64 0) (.int .i64 t2))
    go_wp2
    have y0 := HSZ.out.bx.2 0 _ rfl
    have y1 := HSZ.out.bx.2 1 _ rfl
    have y2 := HSZ.out.bx.2 2 _ rfl
    exact bodyPost_ret (v := .agg #[.int .i64 x2, .int .i64 0, .int .i64 t2]) (by simp [results, Try.results85, go_sem, y0, y1, y2]) rfl ⟨⟨x2, 0, t2⟩, rfl, by unfold BdO; simp only; omega, HSZ.out.cur.mono (by omega), HSZ.out.gr⟩
end Go.Proofs.Ytoogofceoinniab
