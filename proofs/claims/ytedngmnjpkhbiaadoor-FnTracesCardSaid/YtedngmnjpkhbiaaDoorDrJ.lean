/- The specification's draws for cutting and joining. -/
import Derived.Test.YtedngmnjpkhbiaaDoorDrU
namespace Go.Proofs.YtedngmnjpkhbiaaDoor
open Go.ChangeShapes Go.WideShapes Go.ChangeAt Go.RowKit Go.ChangeMaps
set_option linter.unusedSimpArgs false
set_option linter.unusedVariables false

set_option maxRecDepth 100000 in
set_option maxHeartbeats 1000000 in
theorem drawCut (w : World) (B : Nat) (v : Value) (h : CodeArg w B v) :
    Calls Tryd.prog 15 #[v] w fun e w' => ∃ (v' : Value) (t : Tr) (l m : Int), e = .returned (.tuple #[v', .int .i64 l, .int .i64 m]) ∧ (-1000000 ≤ l ∧ l ≤ 2000000) ∧ (-1000000 ≤ m ∧ m ≤ 2000000) ∧ DrT w w' v' t := by
  obtain ⟨h0, ao, n, cap, rfl, h2, h3⟩ := h
  have d0 := (Bx.new w [.int .i64 0, .int .i64 0, .slice none 0 0] 26).alloc (.cells #[.slice ao n cap, .int .i64 0, .int .u64 0] 59)
  have hcu := Lib.hid (cur_new1 w (.cells #[.int .i64 0, .int .i64 0, .slice none 0 0] 26) B ao n cap h0 h2 h3)
  clear h3
  go_enter Tryd.func15, Tryd.ntmps15
  go_wp2_with fail
  refine (cur_trace _ B (w.heap.size + 1) 0 hcu.out (by omega)).mono ?_
  rintro e w1 ⟨v1, t, rfl, hl, ⟨hs0, hs1⟩, ho, hc, hg⟩
  obtain ⟨ao1, cap1, rfl⟩ := ho.form
  have d1 := d0.grown hg (by simp)
  have z1 : w.heap.size + 1 + 1 ≤ w1.heap.size := by have := hg.size; simpa using this
  have HG := Lib.hid hg
  have HO := Lib.hid (ho.mono (L' := w.heap.size + 1 + 1) (by simp) (Nat.le_refl _))
  have HC := Lib.hid (show Cur (w1.alloc (.cells #[.int .i64 t.st, .int .i64 t.start, .slice ao1 t.xs.length cap1] 26)) B (w.heap.size + 1) 600 from hc.alloc _)
  have bt : Bx (w1.alloc (.cells #[.int .i64 t.st, .int .i64 t.start, .slice ao1 t.xs.length cap1] 26)) w1.heap.size [.int .i64 t.st, .int .i64 t.start, .slice ao1 t.xs.length cap1] := Bx.new w1 [.int .i64 t.st, .int .i64 t.start, .slice ao1 t.xs.length cap1] 26
  have dt : Bx (w1.alloc (.cells #[.int .i64 t.st, .int .i64 t.start, .slice ao1 t.xs.length cap1] 26)) w.heap.size [.int .i64 0, .int .i64 0, .slice none 0 0] := d1.alloc _
  have q0 := bt.2 0 _ rfl
  have q1 := bt.2 1 _ rfl
  have q2 := bt.2 2 _ rfl
  have ne1 : w.heap.size ≠ w1.heap.size := by omega
  clear hg ho hc d0 d1
  go_wp2_with fail
  refine (cur_tickIn _ B (w.heap.size + 1) 600 t ao1 cap1 HC.out (by omega) hl hs0 hs1).mono ?_
  rintro e w2 ⟨l, rfl, hl0, hc2, hg2⟩
  have b2 := bt.grown hg2 (by first | omega | (simp; done) | (simp; omega))
  have d2 := dt.grown hg2 (by first | omega | (simp; done) | (simp; omega))
  have HC2 := Lib.hid (show Cur w2.drew B (w.heap.size + 1) 604 from hc2)
  have HG2 := Lib.hid (show w1.grownBy w2.drew (some (w.heap.size + 1)) from ((grown_alloc w1 (.cells #[.int .i64 t.st, .int .i64 t.start, .slice ao1 t.xs.length cap1] 26) _).trans ⟨hg2.os, hg2.tape, hg2.output, hg2.size, hg2.block⟩))
  have bd : Bx w2.drew w1.heap.size [.int .i64 t.st, .int .i64 t.start, .slice ao1 t.xs.length cap1] := b2
  have dd : Bx w2.drew w.heap.size [.int .i64 0, .int .i64 0, .slice none 0 0] := d2
  have y0 := bd.2 0 _ rfl
  have y1 := bd.2 1 _ rfl
  have y2 := bd.2 2 _ rfl
  have z2 : w1.heap.size + 1 ≤ w2.heap.size := by have := hg2.size; simpa using this
  clear q0 q1 q2 hg2 hc2
  go_wp2_with fail
  go_region_held3 (fun w' => w'.cell? ⟨w1.heap.size, 0, none⟩ = some (.int .i64 t.st) ∧ w'.cell? ⟨w1.heap.size, 1, none⟩ = some (.int .i64 t.start) ∧ w'.cell? ⟨w1.heap.size, 2, none⟩ = some (.slice ao1 t.xs.length cap1))
    (first
      | with_reducible exact ⟨y0, y1, y2⟩
      | with_reducible exact ⟨u0, u1, u2⟩
      | with_reducible exact ⟨v0, v1, v2⟩
      | exact ⟨(b5.other3 ne1 _ _ _).2 0 _ rfl, (b5.other3 ne1 _ _ _).2 1 _ rfl, (b5.other3 ne1 _ _ _).2 2 _ rfl⟩)
    (first
      | (go_at_call 40; (with_reducible refine (cur_pick w4 B (w.heap.size + 1) 606 9 HC4.out (by omega) (by omega) (by omega)).mono ?_); rintro e w5 ⟨q, rfl, hp0, hp1, hc5, hg5⟩; have b5 := b4.grown hg5 (by first | omega | (simp; done) | (simp; omega)); have d5 := d4.grown hg5 (by first | omega | (simp; done) | (simp; omega)); have t8 : q.tdiv 8 = q / 8 := Int.tdiv_eq_ediv_of_nonneg hp0; have s5 : IntKind.i64.wrap (q / 8) = q / 8 := IntWalk.i64_in _ (by omega); have s6 : IntKind.i64.wrap (l + r - q / 8) = l + r - q / 8 := IntWalk.i64_in _ (by omega); have v0 := b5.2 0 _ rfl; have v1 := b5.2 1 _ rfl; have v2 := b5.2 2 _ rfl; have x0 := d5.2 0 _ rfl; have x1 := d5.2 1 _ rfl; have x2 := d5.2 2 _ rfl; have x3 := d5.1.2)
      | (go_at_call 40; (with_reducible refine (cur_pick w2.drew B (w.heap.size + 1) 604 5 HC2.out (by omega) (by omega) (by omega)).mono ?_); rintro e w4 ⟨r, rfl, hr0, hr1, hc4, hg4⟩; have HC4 := Lib.hid hc4; have b4 := bd.grown hg4 (by first | omega | (simp; done) | (simp; omega)); have d4 := dd.grown hg4 (by first | omega | (simp; done) | (simp; omega)); have s4 : IntKind.i64.wrap (l + r) = l + r := IntWalk.i64_in _ (by omega); have hr2 : r < 5 := (by omega); have u0 := b4.2 0 _ rfl; have u1 := b4.2 1 _ rfl; have u2 := b4.2 2 _ rfl))
  go_wp2
  have G1 : w1.grownBy w5 (some (w.heap.size + 1)) := HG2.out.trans (hg4.trans hg5)
  have z5 : w1.heap.size ≤ w5.heap.size := G1.size
  refine bodyPost_ret (v := .tuple #[.agg #[.int .i64 t.st, .int .i64 t.start, .slice ao1 t.xs.length cap1], .int .i64 l, .int .i64 (l + r - q / 8)]) (by simp [results, Tryd.results15, go_sem, x0, x1, x2]) rfl ⟨_, t, l, l + r - q / 8, rfl, by omega, by omega, hl, ?_, ?_⟩
  · exact ((((HO.out.grown G1 (by omega)).setLow (by simp; omega) _).setLow (by simp; omega) _).setLow (by simp; omega) _).mono (by omega) (by simp; omega)
  · exact ((((((((Below.refl w.heap.size w).alloc (Nat.le_refl _) _).alloc (by simp) _).grown HG.out (by simp; omega) (fun g e => by cases e; omega))).grown G1 (by omega) (fun g e => by cases e; omega)).setCell (by simp) _).setCell (by simp) _).setCell (by simp) _
end Go.Proofs.YtedngmnjpkhbiaaDoor
