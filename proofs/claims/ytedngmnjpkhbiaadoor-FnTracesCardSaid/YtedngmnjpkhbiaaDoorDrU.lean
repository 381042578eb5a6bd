/- The specification's draws of traces with numbers. -/
import Derived.Test.YtedngmnjpkhbiaaDoorDrT
namespace Go.Proofs.YtedngmnjpkhbiaaDoor
open Go.ChangeShapes Go.WideShapes Go.ChangeAt Go.RowKit Go.ChangeMaps
set_option linter.unusedSimpArgs false
set_option linter.unusedVariables false

theorem Own.grown {α : Type} {en : α → Value} {w w' : World} {L B b : Nat} {v : Value} {xs : List α} (h : Own en w L B v xs) (hg : w.grownBy w' (some b)) (hb : b < L) : Own en w' L B v xs := by
  obtain ⟨ao, cap, h1, h2, h3, hn, h4⟩ := h
  refine ⟨ao, cap, h1, h2, h3, hn, fun i x hi => ?_⟩
  obtain ⟨g, off, e1, e0, e2, e3, e4⟩ := h4 i x hi
  have hh := hg.block g (cell_of_lt e3) (by intro e; cases e; omega)
  exact ⟨g, off, e1, e0, e2, (World.cell?_of_block hh).trans e3, (World.frozen?_of_block hh).trans e4⟩
theorem TrO.grown {w w' : World} {L B b : Nat} {v : Value} {t : Tr} (h : TrO w L B v t) (hg : w.grownBy w' (some b)) (hb : b < L) : TrO w' L B v t := let ⟨vs, h1, h2⟩ := h; ⟨vs, h1, h2.grown hg hb⟩
set_option maxRecDepth 100000 in
set_option maxHeartbeats 1000000 in
theorem cur_tickIn (w : World) (B b k : Nat) (t : Tr) (ao : Option Addr) (cap : Nat) (h : Cur w B b k) (hk : k ≤ 800000) (hl : t.xs.length ≤ 40) (h0 : -1 ≤ t.start) (h1 : t.start ≤ 1000000) :
    Calls Tryd.prog 39 #[.pointer (some ⟨b, 0, none⟩), .agg #[.int .i64 t.st, .int .i64 t.start, .slice ao t.xs.length cap]] w fun e w' => ∃ x : Int, e = .returned (.int .i64 x) ∧ (-100 ≤ x ∧ x ≤ 1000100) ∧ Cur w' B b (k + 4) ∧ w.grownBy w' (some b) := by
  have hbw := h.lt
  have hcu := h.alloc (.cells #[.int .i64 t.st, .int .i64 t.start, .slice ao t.xs.length cap] 26)
  have b0 := Bx.new w [.int .i64 t.st, .int .i64 t.start, .slice ao t.xs.length cap] 26
  have HC := Lib.hid (show Cur (w.alloc (.cells #[.int .i64 t.st, .int .i64 t.start, .slice ao t.xs.length cap] 26)).drew B b k from hcu)
  have bd : Bx (w.alloc (.cells #[.int .i64 t.st, .int .i64 t.start, .slice ao t.xs.length cap] 26)).drew w.heap.size [.int .i64 t.st, .int .i64 t.start, .slice ao t.xs.length cap] := b0
  have hn2 : (t.xs.length : Int) + 2 ≤ 42 := by omega
  have s1 : IntKind.i64.wrap ((t.xs.length : Int) + 2) = (t.xs.length : Int) + 2 := IntWalk.i64_in _ (by omega)
  have q1 := bd.2 1 _ rfl
  have q2 := bd.2 2 _ rfl
  have x1 := b0.2 1 _ rfl
  have x2 := b0.2 2 _ rfl
  clear hcu
  go_enter Tryd.func39, Tryd.ntmps39
  go_wp2
  go_region_held3 (fun w' => w'.cell? ⟨w.heap.size, 1, none⟩ = some (.int .i64 t.start) ∧ w'.cell? ⟨w.heap.size, 2, none⟩ = some (.slice ao t.xs.length cap))
    (first
      | with_reducible exact ⟨q1, q2⟩
      | with_reducible exact ⟨y1, y2⟩
      | with_reducible exact ⟨z1, z2⟩
      | with_reducible exact ⟨x1, x2⟩)
    (first
      | (go_at_call 40; (with_reducible refine (cur_pick w4 B b (k + 2) 9 hc4 (by omega) (by omega) (by omega)).mono ?_); rintro e w5 ⟨q, rfl, hq0, hq1, hc5, hg5⟩; have b5 := b4.grown hg5 (by first | omega | (simp; done) | (simp; omega)); have t8 : q.tdiv 8 = q / 8 := Int.tdiv_eq_ediv_of_nonneg hq0; have s5 : IntKind.i64.wrap (q / 8) = q / 8 := IntWalk.i64_in _ (by omega); have s6 : IntKind.i64.wrap (t.start + r - q / 8) = t.start + r - q / 8 := IntWalk.i64_in _ (by omega); have z1 := b5.2 1 _ rfl; have z2 := b5.2 2 _ rfl)
      | (go_at_call 40; (with_reducible refine (cur_pick _ B b k ((t.xs.length : Int) + 2) HC.out (by omega) (by omega) (by omega)).mono ?_); rintro e w4 ⟨r, rfl, hr0, hr1, hc4, hg4⟩; have b4 := bd.grown hg4 (by first | omega | (simp; done) | (simp; omega)); have s4 : IntKind.i64.wrap (t.start + r) = t.start + r := IntWalk.i64_in _ (by omega); have hr2 : r < 42 := (by omega); have y1 := b4.2 1 _ rfl; have y2 := b4.2 2 _ rfl; clear q1 q2))
  go_wp2
  go_ret
  exact ⟨_, rfl, by omega, hc5, ((grown_alloc w (.cells #[.int .i64 t.st, .int .i64 t.start, .slice ao t.xs.length cap] 26) (some b)).trans ⟨hg4.os, hg4.tape, hg4.output, hg4.size, hg4.block⟩).trans hg5⟩
end Go.Proofs.YtedngmnjpkhbiaaDoor
