/- The specification's draws of traces. -/
import Derived.Test.YtklilfbokpljkacDrS
import Derived.Test.YtklilfbokpljkacSubS
import Derived.Test.YtklilfbokpljkacTrcB
namespace Go.Proofs.Ytklilfbokpljkac
open Go.ChangeShapes Go.WideShapes Go.ChangeAt Go.RowKit Go.ChangeMaps
set_option linter.unusedSimpArgs false
set_option linter.unusedVariables false

theorem only_set {a w : World} {b : Nat} (h : a.grownBy w (some b)) {p : Addr} (hp : a.heap.size ≤ p.block) (u : Value) : a.grownBy (w.setCell p u) (some b) :=
  ⟨h.os, h.tape, h.output, by simpa [World.setCell] using h.size, fun i hi hne => (Below.heap_setCell w p u i (by rintro rfl; omega)).trans (h.block i hi hne)⟩
theorem Cur.set {w : World} {B b k : Nat} (h : Cur w B b k) {p : Addr} (hp : b < p.block) (u : Value) : Cur (w.setCell p u) B b k :=
  h.keep (row := some p.block) ⟨rfl, rfl, rfl, by simp [World.setCell], fun i hi hne => Below.heap_setCell w p u i (fun e => hne (by rw [e]))⟩ (fun g e => by cases e; exact hp)

set_option maxRecDepth 100000 in
set_option maxHeartbeats 2000000 in
theorem cur_trace (w : World) (B b k : Nat) (h : Cur w B b k) (hk : k ≤ 700000) :
    Calls Try.prog 86 #[.pointer (some ⟨b, 0, none⟩)] w fun e w' => ∃ (v : Value) (t : Tr), e = .returned v ∧ t.xs.length ≤ 40 ∧ (-1 ≤ t.start ∧ t.start ≤ 1000000) ∧ TrO w' w.heap.size w'.heap.size v t ∧ Cur w' B b (k + 600) ∧ w.grownBy w' (some b) := by
  have hbw := h.lt
  go_enter Try.func86, Try.ntmps86
  go_wp2_with fail
  refine (cur_among _ B b k ((h.alloc (.cells #[.int .i64 0, .int .i64 0, .slice none 0 0] 28)).alloc _) (by omega) _ _ (ints_lit1 w (.cells #[.int .i64 0, .int .i64 0, .slice none 0 0] 28) b hbw 3 5 [1, 7, 12, 12, 99]) (by simp) (by simp)).mono ?_
  rintro e w1 ⟨x, rfl, hx, hc1, hg1⟩
  have d1 := ((Bx.new w [.int .i64 0, .int .i64 0, .slice none 0 0] 28).alloc _).grown hg1 (by simp; omega)
  have G1 := (grown_alloc w _ _).trans ((grown_alloc _ _ _).trans hg1)
  have z1 := d1.1.1
  clear hx
  go_wp2_with fail
  refine (cur_among _ B b _ (hc1.alloc _) (by omega) _ _ (ints_lit w1 b (by omega) 3 5 [0, 100, 100, 500, 999990]) (by simp) (by simp)).mono ?_
  rintro e w2 ⟨y, rfl, hy, hc2, hg2⟩
  have hy2 : 0 ≤ y ∧ y ≤ 999990 := by
    revert y
    decide
  have d2 := (d1.alloc _).grown hg2 (by simp; omega)
  have G2 := G1.trans ((grown_alloc _ _ _).trans hg2)
  have z2 := d2.1.1
  clear hy hg1 hc1 d1 G1 hg2
  go_wp2_with fail
  refine (cur_samples _ B b _ hc2 (by omega)).mono ?_
  rintro e w3 ⟨vs, xs, rfl, hxl, hS⟩
  have HS := Lib.hid hS
  obtain ⟨ao, cap, rfl⟩ := hS.2.1
  have d3 := d2.grown hS.2.2.2.2 (by simp; omega)
  have z3 := d3.1.1
  have HD3 := Lib.hid d3
  have HG3 := Lib.hid (G2.trans hS.2.2.2.2)
  have z23 := hS.2.2.2.2.size
  clear d2 G2 hc2 hS d3
  go_wp2_with fail
  refine (cur_one _ B b _ 40 (HS.out.2.2.2.1.alloc _) (by omega) (by omega) (by omega)).mono ?_
  rintro e w4 ⟨yes, rfl, hc4, hg4⟩
  have n4 := (Bx.new w3 [.int .i64 x, .int .i64 y, .slice ao xs.length cap] 28).grown hg4 (by simp; omega)
  have d4 := (HD3.out.alloc _).grown hg4 (by simp; omega)
  have r4 : w4.ownsRow w2.heap.size 3 1 (.slice ao xs.length cap) xs.length (xs.map (Value.int .i64)) := kept_row (HS.out.1.alloc _) hg4 (by omega)
  have HG4 := Lib.hid (HG3.out.trans ((grown_alloc _ _ _).trans hg4))
  have HC4 := Lib.hid hc4
  have z4 : w3.heap.size + 1 ≤ w4.heap.size := by have := hg4.size; simpa using this
  have hrb : ∀ g, (Value.slice ao xs.length cap).ownBlock = some g → g < w3.heap.size := fun g e => (HS.out.1.lt g e).2
  have HRB := Lib.hid hrb
  clear hg4 hc4 hrb
  cases yes with
  | false =>
    have p0 := n4.2 0 _ rfl
    have p1 := n4.2 1 _ rfl
    have p2 := n4.2 2 _ rfl
    have x0 := d4.2 0 _ rfl
    have x1 := d4.2 1 _ rfl
    have x2 := d4.2 2 _ rfl
    have x3 := d4.1.2
    go_wp2
    refine bodyPost_ret (v := .agg #[.int .i64 x, .int .i64 y, .slice ao xs.length cap]) (by simp [results, Try.results86, go_sem, x0, x1, x2]) rfl ⟨_, ⟨x, y, xs⟩, rfl, hxl, ⟨by show -1 ≤ y; omega, by show y ≤ 1000000; omega⟩, ⟨_, rfl, ?_⟩, ?_, ?_⟩
    · exact ((((Own.of_row r4).setLow (by simp; omega) _).setLow (by simp; omega) _).setLow (by simp; omega) _).mono (by omega) (by simp)
    · exact (((HC4.out.set (by simp; omega) _).set (by simp; omega) _).set (by simp; omega) _).mono (by omega)
    · exact only_set (only_set (only_set HG4.out (by simp) _) (by simp) _) (by simp) _
  | true =>
    go_wp2_with fail
    refine (cur_among _ B b _ (HC4.out.alloc _) (by omega) _ _ (ints_lit w4 b (by omega) 3 2 [0, 100]) (by simp) (by simp)).mono ?_
    rintro e w5 ⟨s, rfl, hs, hc5, hg5⟩
    have n5 := (n4.alloc _).grown hg5 (by simp; omega)
    have d5 := (d4.alloc _).grown hg5 (by simp; omega)
    have r5 : w5.ownsRow w2.heap.size 3 1 (.slice ao xs.length cap) xs.length (xs.map (Value.int .i64)) := kept_row (r4.alloc _) hg5 (by omega)
    have HG5 := Lib.hid (HG4.out.trans ((grown_alloc _ _ _).trans hg5))
    have z5 : w4.heap.size + 1 ≤ w5.heap.size := by have := hg5.size; simpa using this
    have HC5 := Lib.hid hc5
    clear hs hg5 n4 d4 r4 HC4 HG4 hc5
    have p0 := n5.2 0 _ rfl
    have p1 := n5.2 1 _ rfl
    have p2 := n5.2 2 _ rfl
    have p3 := n5.1.2
    have x0 := d5.2 0 _ rfl
    have x1 := d5.2 1 _ rfl
    have x2 := d5.2 2 _ rfl
    have x3 := d5.1.2
    have ne1 : ¬ w.heap.size = w3.heap.size := by omega
    have ne2 : ¬ w3.heap.size = w.heap.size := by omega
    go_wp2
    refine bodyPost_ret (v := .agg #[.int .i64 s, .int .i64 y, .slice ao xs.length cap]) (by simp [results, Try.results86, go_sem, x0, x1, x2]) rfl ⟨_, ⟨s, y, xs⟩, rfl, hxl, ⟨by show -1 ≤ y; omega, by show y ≤ 1000000; omega⟩, ⟨_, rfl, ?_⟩, ?_, ?_⟩
    · have r6 := ownsRow_setOther r5 (a := ⟨w3.heap.size, 0, none⟩) (fun g e => by have := HRB.out g e; simp; omega) (.int .i64 s)
      exact ((((Own.of_row r6).setLow (by simp; omega) _).setLow (by simp; omega) _).setLow (by simp; omega) _).mono (by omega) (by simp)
    · exact ((((HC5.out.set (by simp; omega) _).set (by simp; omega) _).set (by simp; omega) _).set (by simp; omega) _).mono (by omega)
    · exact only_set (only_set (only_set (only_set HG5.out (by simp; omega) _) (by simp) _) (by simp) _) (by simp) _

theorem cur_new1 (w : World) (o : Obj) (B : Nat) (ao : Option Addr) (n cap : Nat) (hB : B ≤ w.heap.size) (hn : n ≤ 65536) (hc : Code w B ao n) :
    Cur ((w.alloc o).alloc (.cells #[.slice ao n cap, .int .i64 0, .int .u64 0] 87)) B (w.heap.size + 1) 0 := by
  have h := cur_new (w.alloc o) B ao n cap (by simp; omega) hn (hc.keep fun bb o' hbb => ((Below.refl B w).alloc hB o).cell (p := ⟨bb, o', none⟩) hbb)
  rwa [World.size_alloc] at h
/-- A trace that a draw gives. -/
def DrT (w : World) (w' : World) (v : Value) (t : Tr) : Prop := t.xs.length ≤ 40 ∧ TrO w' w.heap.size w'.heap.size v t ∧ Below w.heap.size w w'

set_option maxHeartbeats 1000000 in
theorem drawTrace (w : World) (B : Nat) (v : Value) (h : CodeArg w B v) :
    Calls Try.prog 84 #[v] w fun e w' => ∃ (v : Value) (t : Tr), e = .returned v ∧ DrT w w' v t := by
  obtain ⟨h0, ao, n, cap, rfl, h2, h3⟩ := h
  have d0 := (Bx.new w [.int .i64 0, .int .i64 0, .slice none 0 0] 28).alloc (.cells #[.slice ao n cap, .int .i64 0, .int .u64 0] 87)
  have hcu := Lib.hid (cur_new1 w (.cells #[.int .i64 0, .int .i64 0, .slice none 0 0] 28) B ao n cap h0 h2 h3)
  clear h3
  go_enter Try.func84, Try.ntmps84
  go_wp2_with fail
  refine (cur_trace _ B (w.heap.size + 1) 0 hcu.out (by omega)).mono ?_
  rintro e w1 ⟨v1, t, rfl, hl, _, ho, _, hg⟩
  obtain ⟨ao1, cap1, rfl⟩ := ho.form
  have d1 := d0.grown hg (by simp)
  have z1 : w.heap.size + 1 + 1 ≤ w1.heap.size := by have := hg.size; simpa using this
  have HG := Lib.hid hg
  have HO := Lib.hid (ho.mono (L' := w.heap.size + 1) (Nat.le_trans (by simp) (Nat.le_refl _)) (Nat.le_refl _))
  have x0 := d1.2 0 _ rfl
  have x1 := d1.2 1 _ rfl
  have x2 := d1.2 2 _ rfl
  have x3 := d1.1.2
  clear hg ho d0 d1
  go_wp2
  refine bodyPost_ret (v := .agg #[.int .i64 t.st, .int .i64 t.start, .slice ao1 t.xs.length cap1]) (by simp [results, Try.results84, go_sem, x0, x1, x2]) rfl ⟨_, t, rfl, hl, ?_, ?_⟩
  · exact (((HO.out.setLow (by simp) _).setLow (by simp) _).setLow (by simp) _).mono (by omega) (by simp)
  · exact (((((((Below.refl w.heap.size w).alloc (Nat.le_refl _) _).alloc (by simp) _).grown HG.out (by simp; omega) (fun g e => by cases e; omega))).setCell (by simp) _).setCell (by simp) _).setCell (by simp) _

set_option maxHeartbeats 1000000 in
theorem drawLargestSample (w : World) (B : Nat) (v : Value) (h : CodeArg w B v) :
    Calls Try.prog 20 #[v] w fun e w' => ∃ (v : Value) (t : Tr), e = .returned v ∧ DrT w w' v t := by
  have h1 := h.below ((Below.refl B w).alloc h.1 (.cells #[.int .i64 0, .int .i64 0, .slice none 0 0] 28))
  have d0 := Bx.new w [.int .i64 0, .int .i64 0, .slice none 0 0] 28
  obtain ⟨h0, ao, n, cap, rfl, _, _⟩ := id h
  have H1 := Lib.hid h1
  clear h1 h
  go_enter Try.func20, Try.ntmps20
  go_wp2_with fail
  refine (drawTrace _ B _ H1.out).mono ?_
  rintro e w1 ⟨v1, t, rfl, hl, ho, hb⟩
  obtain ⟨ao1, cap1, rfl⟩ := ho.form
  have d1 := d0.below hb
  have z1 : w.heap.size + 1 ≤ w1.heap.size := by have := hb.size; simpa using this
  have x0 := d1.2 0 _ rfl
  have x1 := d1.2 1 _ rfl
  have x2 := d1.2 2 _ rfl
  have x3 := d1.1.2
  have HO := Lib.hid (ho.mono (L' := w.heap.size + 1) (by simp) (Nat.le_refl _))
  have HB := Lib.hid hb
  clear ho hb d0 d1
  go_wp2
  refine bodyPost_ret (v := .agg #[.int .i64 t.st, .int .i64 t.start, .slice ao1 t.xs.length cap1]) (by simp [results, Try.results20, go_sem, x0, x1, x2]) rfl ⟨_, t, rfl, hl, ?_, ?_⟩
  · exact (((HO.out.setLow (by simp) _).setLow (by simp) _).setLow (by simp) _).mono (by omega) (by simp)
  · exact (((((Below.refl w.heap.size w).alloc (Nat.le_refl _) _).trans (HB.out.mono (by simp))).setCell (by simp) _).setCell (by simp) _).setCell (by simp) _

set_option maxHeartbeats 1000000 in
theorem drawMeanOf (w : World) (B : Nat) (v : Value) (h : CodeArg w B v) :
    Calls Try.prog 27 #[v] w fun e w' => ∃ (v : Value) (t : Tr), e = .returned v ∧ DrT w w' v t := by
  have h1 := h.below ((Below.refl B w).alloc h.1 (.cells #[.int .i64 0, .int .i64 0, .slice none 0 0] 28))
  have d0 := Bx.new w [.int .i64 0, .int .i64 0, .slice none 0 0] 28
  obtain ⟨h0, ao, n, cap, rfl, _, _⟩ := id h
  have H1 := Lib.hid h1
  clear h1 h
  go_enter Try.func27, Try.ntmps27
  go_wp2_with fail
  refine (drawTrace _ B _ H1.out).mono ?_
  rintro e w1 ⟨v1, t, rfl, hl, ho, hb⟩
  obtain ⟨ao1, cap1, rfl⟩ := ho.form
  have d1 := d0.below hb
  have z1 : w.heap.size + 1 ≤ w1.heap.size := by have := hb.size; simpa using this
  have x0 := d1.2 0 _ rfl
  have x1 := d1.2 1 _ rfl
  have x2 := d1.2 2 _ rfl
  have x3 := d1.1.2
  have HO := Lib.hid (ho.mono (L' := w.heap.size + 1) (by simp) (Nat.le_refl _))
  have HB := Lib.hid hb
  clear ho hb d0 d1
  go_wp2
  refine bodyPost_ret (v := .agg #[.int .i64 t.st, .int .i64 t.start, .slice ao1 t.xs.length cap1]) (by simp [results, Try.results27, go_sem, x0, x1, x2]) rfl ⟨_, t, rfl, hl, ?_, ?_⟩
  · exact (((HO.out.setLow (by simp) _).setLow (by simp) _).setLow (by simp) _).mono (by omega) (by simp)
  · exact (((((Below.refl w.heap.size w).alloc (Nat.le_refl _) _).trans (HB.out.mono (by simp))).setCell (by simp) _).setCell (by simp) _).setCell (by simp) _

set_option maxHeartbeats 1000000 in
theorem drawCrossings (w : World) (B : Nat) (v : Value) (h : CodeArg w B v) :
    Calls Try.prog 28 #[v] w fun e w' => ∃ (v : Value) (t : Tr), e = .returned v ∧ DrT w w' v t := by
  have h1 := h.below ((Below.refl B w).alloc h.1 (.cells #[.int .i64 0, .int .i64 0, .slice none 0 0] 28))
  have d0 := Bx.new w [.int .i64 0, .int .i64 0, .slice none 0 0] 28
  obtain ⟨h0, ao, n, cap, rfl, _, _⟩ := id h
  have H1 := Lib.hid h1
  clear h1 h
  go_enter Try.func28, Try.ntmps28
  go_wp2_with fail
  refine (drawTrace _ B _ H1.out).mono ?_
  rintro e w1 ⟨v1, t, rfl, hl, ho, hb⟩
  obtain ⟨ao1, cap1, rfl⟩ := ho.form
  have d1 := d0.below hb
  have z1 : w.heap.size + 1 ≤ w1.heap.size := by have := hb.size; simpa using this
  have x0 := d1.2 0 _ rfl
  have x1 := d1.2 1 _ rfl
  have x2 := d1.2 2 _ rfl
  have x3 := d1.1.2
  have HO := Lib.hid (ho.mono (L' := w.heap.size + 1) (by simp) (Nat.le_refl _))
  have HB := Lib.hid hb
  clear ho hb d0 d1
  go_wp2
  refine bodyPost_ret (v := .agg #[.int .i64 t.st, .int .i64 t.start, .slice ao1 t.xs.length cap1]) (by simp [results, Try.results28, go_sem, x0, x1, x2]) rfl ⟨_, t, rfl, hl, ?_, ?_⟩
  · exact (((HO.out.setLow (by simp) _).setLow (by simp) _).setLow (by simp) _).mono (by omega) (by simp)
  · exact (((((Below.refl w.heap.size w).alloc (Nat.le_refl _) _).trans (HB.out.mono (by simp))).setCell (by simp) _).setCell (by simp) _).setCell (by simp) _

end Go.Proofs.Ytklilfbokpljkac
