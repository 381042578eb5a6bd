/- The specification's draws of traces with numbers. -/
import Derived.Test.YtklilfbokpljkacDrT
namespace Go.Proofs.Ytklilfbokpljkac
open Go.ChangeShapes Go.WideShapes Go.ChangeAt Go.RowKit Go.ChangeMaps
set_option linter.unusedSimpArgs false
set_option linter.unusedVariables false

theorem Own.grown {α : Type} {en : α → Value} {w w' : World} {L B b : Nat} {v : Value} {xs : List α} (h : Own en w L B v xs) (hg : w.grownBy w' (some b)) (hb : b < L) : Own en w' L B v xs := by
  obtain ⟨ao, cap, h1, h2, h3, hn, h4⟩ := h
  refine ⟨ao, cap, h1, h2, h3, hn, fun i x hi => ?_⟩
  obtain ⟨g, off, e1, e0, e2, e3, e4⟩ := h4 i x hi
  have hh := hg.block g (cell_of_lt e3) (by intro e; cases e; omega)
  exact ⟨g, off, e1, e0, e2, (World.cell?_of_block hh).trans e3, (World.frozen?_of_block hh).trans e4⟩
theorem TrO.grown {w w' : World} {L B b : Nat} {v : Value} {t : Tr} (h : TrO w L B v t) (hg : w.grownBy w' (some b)) (hb : b < L) : TrO w' L B v t := let ⟨vs, h1, h2⟩ := h; ⟨vs, h1, h2.grown hg hb⟩
set_option maxRecDepth 100000 in
set_option maxHeartbeats 1000000 in
theorem drawSub (w : World) (B : Nat) (v : Value) (h : CodeArg w B v) :
    Calls Try.prog 23 #[v] w fun e w' => ∃ (v' : Value) (t : Tr) (l : Int), e = .returned (.tuple #[v', .int .i64 l]) ∧ (-1000000 ≤ l ∧ l ≤ 1000000) ∧ DrT w w' v' t := by
  obtain ⟨h0, ao, n, cap, rfl, h2, h3⟩ := h
  have d0 := (Bx.new w [.int .i64 0, .int .i64 0, .slice none 0 0] 28).alloc (.cells #[.slice ao n cap, .int .i64 0, .int .u64 0] 87)
  have hcu := Lib.hid (cur_new1 w (.cells #[.int .i64 0, .int .i64 0, .slice none 0 0] 28) B ao n cap h0 h2 h3)
  clear h3
  go_enter Try.func23, Try.ntmps23
  go_wp2_with fail
  refine (cur_trace _ B (w.heap.size + 1) 0 hcu.out (by omega)).mono ?_
  rintro e w1 ⟨v1, t, rfl, hl, _, ho, hc, hg⟩
  obtain ⟨ao1, cap1, rfl⟩ := ho.form
  have d1 := d0.grown hg (by simp)
  have z1 : w.heap.size + 1 + 1 ≤ w1.heap.size := by have := hg.size; simpa using this
  have HG := Lib.hid hg
  have HC := Lib.hid hc
  have HO := Lib.hid (ho.mono (L' := w.heap.size + 1 + 1) (by simp) (Nat.le_refl _))
  clear hg ho hc d0
  go_wp2_with fail
  refine (cur_among _ B (w.heap.size + 1) _ (HC.out.alloc _) (by omega) _ _ (ints_lit w1 (w.heap.size + 1) (by omega) 3 6 [0, 1, -20, 500, 100000, 100001]) (by simp) (by simp)).mono ?_
  rintro e w2 ⟨l, rfl, hx, _, hg2⟩
  have hl2 : -1000000 ≤ l ∧ l ≤ 1000000 := by
    revert l
    decide
  have z2 : w1.heap.size + 1 ≤ w2.heap.size := by have := hg2.size; simpa using this
  have d2 := (d1.alloc (.cells ([0, 1, -20, 500, 100000, 100001].map (Value.int .i64)).toArray 3)).grown hg2 (by simp)
  have HG2 := Lib.hid ((grown_alloc w1 _ (some (w.heap.size + 1))).trans hg2)
  clear hg2 d1 hx
  have x0 := d2.2 0 _ rfl
  have x1 := d2.2 1 _ rfl
  have x2 := d2.2 2 _ rfl
  have x3 := d2.1.2
  go_wp2
  refine bodyPost_ret (v := .tuple #[.agg #[.int .i64 t.st, .int .i64 t.start, .slice ao1 t.xs.length cap1], .int .i64 l]) (by simp [results, Try.results23, go_sem, x0, x1, x2]) rfl ⟨_, t, l, rfl, hl2, hl, ?_, ?_⟩
  · exact ((((HO.out.grown HG2.out (by omega)).setLow (by simp; omega) _).setLow (by simp; omega) _).setLow (by simp; omega) _).mono (by omega) (by simp; omega)
  · exact ((((((((Below.refl w.heap.size w).alloc (Nat.le_refl _) _).alloc (by simp) _).grown HG.out (by simp; omega) (fun g e => by cases e; omega))).grown HG2.out (by omega) (fun g e => by cases e; omega)).setCell (by simp) _).setCell (by simp) _).setCell (by simp) _
set_option maxRecDepth 100000 in
set_option maxHeartbeats 1000000 in
theorem cur_tickIn (w : World) (B b k : Nat) (t : Tr) (ao : Option Addr) (cap : Nat) (h : Cur w B b k) (hk : k ≤ 800000) (hl : t.xs.length ≤ 40) (h0 : -1 ≤ t.start) (h1 : t.start ≤ 1000000) :
    Calls Try.prog 91 #[.pointer (some ⟨b, 0, none⟩), .agg #[.int .i64 t.st, .int .i64 t.start, .slice ao t.xs.length cap]] w fun e w' => ∃ x : Int, e = .returned (.int .i64 x) ∧ (-100 ≤ x ∧ x ≤ 1000100) ∧ Cur w' B b (k + 4) ∧ w.grownBy w' (some b) := by
  have hbw := h.lt
  have hcu := h.alloc (.cells #[.int .i64 t.st, .int .i64 t.start, .slice ao t.xs.length cap] 28)
  have b0 := Bx.new w [.int .i64 t.st, .int .i64 t.start, .slice ao t.xs.length cap] 28
  have HC := Lib.hid (show Cur (w.alloc (.cells #[.int .i64 t.st, .int .i64 t.start, .slice ao t.xs.length cap] 28)).drew B b k from hcu)
  have bd : Bx (w.alloc (.cells #[.int .i64 t.st, .int .i64 t.start, .slice ao t.xs.length cap] 28)).drew w.heap.size [.int .i64 t.st, .int .i64 t.start, .slice ao t.xs.length cap] := b0
  have hn2 : (t.xs.length : Int) + 2 ≤ 42 := by omega
  have s1 : IntKind.i64.wrap ((t.xs.length : Int) + 2) = (t.xs.length : Int) + 2 := IntWalk.i64_in _ (by omega)
  have q1 := bd.2 1 _ rfl
  have q2 := bd.2 2 _ rfl
  have x1 := b0.2 1 _ rfl
  have x2 := b0.2 2 _ rfl
  clear hcu
  go_enter Try.func91, Try.ntmps91
  go_wp2
  go_region_held3 (fun w' => w'.cell? ⟨w.heap.size, 1, none⟩ = some (.int .i64 t.start) ∧ w'.cell? ⟨w.heap.size, 2, none⟩ = some (.slice ao t.xs.length cap))
    (first
      | with_reducible exact ⟨q1, q2⟩
      | with_reducible exact ⟨y1, y2⟩
      | with_reducible exact ⟨z1, z2⟩
      | with_reducible exact ⟨x1, x2⟩)
    (first
      | (go_at_call 106; (with_reducible refine (cur_pick w4 B b (k + 2) 9 hc4 (by omega) (by omega) (by omega)).mono ?_); rintro e w5 ⟨q, rfl, hq0, hq1, hc5, hg5⟩; have b5 := b4.grown hg5 (by first | omega | (simp; done) | (simp; omega)); have t8 : q.tdiv 8 = q / 8 := Int.tdiv_eq_ediv_of_nonneg hq0; have s5 : IntKind.i64.wrap (q / 8) = q / 8 := IntWalk.i64_in _ (by omega); have s6 : IntKind.i64.wrap (t.start + r - q / 8) = t.start + r - q / 8 := IntWalk.i64_in _ (by omega); have z1 := b5.2 1 _ rfl; have z2 := b5.2 2 _ rfl)
      | (go_at_call 106; (with_reducible refine (cur_pick _ B b k ((t.xs.length : Int) + 2) HC.out (by omega) (by omega) (by omega)).mono ?_); rintro e w4 ⟨r, rfl, hr0, hr1, hc4, hg4⟩; have b4 := bd.grown hg4 (by first | omega | (simp; done) | (simp; omega)); have s4 : IntKind.i64.wrap (t.start + r) = t.start + r := IntWalk.i64_in _ (by omega); have hr2 : r < 42 := (by omega); have y1 := b4.2 1 _ rfl; have y2 := b4.2 2 _ rfl; clear q1 q2))
  go_wp2
  go_ret
  exact ⟨_, rfl, by omega, hc5, ((grown_alloc w (.cells #[.int .i64 t.st, .int .i64 t.start, .slice ao t.xs.length cap] 28) (some b)).trans ⟨hg4.os, hg4.tape, hg4.output, hg4.size, hg4.block⟩).trans hg5⟩
set_option maxRecDepth 100000 in
set_option maxHeartbeats 1000000 in
theorem drawSAt (w : World) (B : Nat) (v : Value) (h : CodeArg w B v) :
    Calls Try.prog 32 #[v] w fun e w' => ∃ (v' : Value) (t : Tr) (l : Int), e = .returned (.tuple #[v', .int .i64 l]) ∧ (-1000000 ≤ l ∧ l ≤ 2000000) ∧ DrT w w' v' t := by
  obtain ⟨h0, ao, n, cap, rfl, h2, h3⟩ := h
  have d0 := (Bx.new w [.int .i64 0, .int .i64 0, .slice none 0 0] 28).alloc (.cells #[.slice ao n cap, .int .i64 0, .int .u64 0] 87)
  have hcu := Lib.hid (cur_new1 w (.cells #[.int .i64 0, .int .i64 0, .slice none 0 0] 28) B ao n cap h0 h2 h3)
  clear h3
  go_enter Try.func32, Try.ntmps32
  go_wp2_with fail
  refine (cur_trace _ B (w.heap.size + 1) 0 hcu.out (by omega)).mono ?_
  rintro e w1 ⟨v1, t, rfl, hl, ⟨hs0, hs1⟩, ho, hc, hg⟩
  obtain ⟨ao1, cap1, rfl⟩ := ho.form
  have d1 := d0.grown hg (by simp)
  have z1 : w.heap.size + 1 + 1 ≤ w1.heap.size := by have := hg.size; simpa using this
  have HG := Lib.hid hg
  have HO := Lib.hid (ho.mono (L' := w.heap.size + 1 + 1) (by simp) (Nat.le_refl _))
  have HC := Lib.hid (show Cur (w1.alloc (.cells #[.int .i64 t.st, .int .i64 t.start, .slice ao1 t.xs.length cap1] 28)).drew B (w.heap.size + 1) 600 from hc.alloc _)
  have bt : Bx (w1.alloc (.cells #[.int .i64 t.st, .int .i64 t.start, .slice ao1 t.xs.length cap1] 28)).drew w1.heap.size [.int .i64 t.st, .int .i64 t.start, .slice ao1 t.xs.length cap1] := Bx.new w1 [.int .i64 t.st, .int .i64 t.start, .slice ao1 t.xs.length cap1] 28
  have dt : Bx (w1.alloc (.cells #[.int .i64 t.st, .int .i64 t.start, .slice ao1 t.xs.length cap1] 28)).drew w.heap.size [.int .i64 0, .int .i64 0, .slice none 0 0] := d1.alloc _
  have q0 := bt.2 0 _ rfl
  have q1 := bt.2 1 _ rfl
  have q2 := bt.2 2 _ rfl
  have ne1 : w.heap.size ≠ w1.heap.size := by omega
  clear hg ho hc d0 d1
  go_wp2_with fail
  go_region_held3 (fun w' => w'.cell? ⟨w1.heap.size, 0, none⟩ = some (.int .i64 t.st) ∧ w'.cell? ⟨w1.heap.size, 1, none⟩ = some (.int .i64 t.start) ∧ w'.cell? ⟨w1.heap.size, 2, none⟩ = some (.slice ao1 t.xs.length cap1))
    (first
      | with_reducible exact ⟨q0, q1, q2⟩
      | with_reducible exact ⟨y0, y1, y2⟩
      | exact ⟨(b5.other3 ne1 _ _ _).2 0 _ rfl, (b5.other3 ne1 _ _ _).2 1 _ rfl, (b5.other3 ne1 _ _ _).2 2 _ rfl⟩)
    (first
      | (go_at_call 91; (with_reducible refine (cur_tickIn _ B (w.heap.size + 1) 600 t ao1 cap1 HC.out (by omega) hl hs0 hs1).mono ?_); rintro e w5 ⟨l, rfl, hl0, hc5, hg5⟩; have b5 := bt.grown hg5 (by first | omega | (simp; done) | (simp; omega)); have d5 := dt.grown hg5 (by first | omega | (simp; done) | (simp; omega)); have y0 := b5.2 0 _ rfl; have y1 := b5.2 1 _ rfl; have y2 := b5.2 2 _ rfl; have x0 := d5.2 0 _ rfl; have x1 := d5.2 1 _ rfl; have x2 := d5.2 2 _ rfl; have x3 := d5.1.2; clear q0 q1 q2))
  have HG2 : w1.grownBy w5 (some (w.heap.size + 1)) := (grown_alloc w1 (.cells #[.int .i64 t.st, .int .i64 t.start, .slice ao1 t.xs.length cap1] 28) _).trans ⟨hg5.os, hg5.tape, hg5.output, hg5.size, hg5.block⟩
  have z2 : w1.heap.size ≤ w5.heap.size := HG2.size
  go_wp2
  refine bodyPost_ret (v := .tuple #[.agg #[.int .i64 t.st, .int .i64 t.start, .slice ao1 t.xs.length cap1], .int .i64 l]) (by simp [results, Try.results32, go_sem, x0, x1, x2]) rfl ⟨_, t, l, rfl, by omega, hl, ?_, ?_⟩
  · exact ((((HO.out.grown HG2 (by omega)).setLow (by simp; omega) _).setLow (by simp; omega) _).setLow (by simp; omega) _).mono (by omega) (by simp; omega)
  · exact ((((((((Below.refl w.heap.size w).alloc (Nat.le_refl _) _).alloc (by simp) _).grown HG.out (by simp; omega) (fun g e => by cases e; omega))).grown HG2 (by omega) (fun g e => by cases e; omega)).setCell (by simp) _).setCell (by simp) _).setCell (by simp) _
end Go.Proofs.Ytklilfbokpljkac
