/- Traces: what they read as; the laws' helpers on them. -/
import Derived.Test.YtklilfbokpljkacInt
namespace Go.Proofs.Ytklilfbokpljkac
open Go.ChangeShapes Go.WideShapes Go.ChangeAt Go.RowKit Go.ChangeMaps
set_option linter.unusedSimpArgs false
set_option linter.unusedVariables false

structure Tr where
  st : Int
  start : Int
  xs : List Int
def nilT : Tr := ⟨0, 0, []⟩
/-- A trace that is read: its samples lie in blocks below B. -/
def TrL (w : World) (B : Nat) (v : Value) (t : Tr) : Prop := ∃ vs, v = .agg #[.int .i64 t.st, .int .i64 t.start, vs] ∧ Lst (Value.int .i64) w B vs t.xs
/-- A trace that is owned: its samples lie in blocks from L to B - 1, and may be written. -/
def TrO (w : World) (L B : Nat) (v : Value) (t : Tr) : Prop := ∃ vs, v = .agg #[.int .i64 t.st, .int .i64 t.start, vs] ∧ Own (Value.int .i64) w L B vs t.xs
theorem TrO.lst {w : World} {L B : Nat} {v : Value} {t : Tr} (h : TrO w L B v t) : TrL w B v t := let ⟨vs, h1, h2⟩ := h; ⟨vs, h1, h2.lst⟩
theorem TrL.below {w w' : World} {B : Nat} {v : Value} {t : Tr} (h : TrL w B v t) (hb : Below B w w') : TrL w' B v t := let ⟨vs, h1, h2⟩ := h; ⟨vs, h1, h2.below hb⟩
theorem TrL.mono {w : World} {B B' : Nat} {v : Value} {t : Tr} (h : TrL w B v t) (hb : B ≤ B') : TrL w B' v t := let ⟨vs, h1, h2⟩ := h; ⟨vs, h1, h2.mono hb⟩
theorem TrO.below {w w' : World} {L B : Nat} {v : Value} {t : Tr} (h : TrO w L B v t) (hb : Below B w w') : TrO w' L B v t := let ⟨vs, h1, h2⟩ := h; ⟨vs, h1, h2.below hb⟩
theorem TrO.mono {w : World} {L B L' B' : Nat} {v : Value} {t : Tr} (h : TrO w L B v t) (h1 : L' ≤ L) (h2 : B ≤ B') : TrO w L' B' v t := let ⟨vs, g1, g2⟩ := h; ⟨vs, g1, g2.mono h1 h2⟩
theorem TrO.high {w w' : World} {L B L' U' : Nat} {v : Value} {t : Tr} (h : TrO w L B v t) (hu : Upd L' U' w w') (hU : U' ≤ L) : TrO w' L B v t := let ⟨vs, g1, g2⟩ := h; ⟨vs, g1, g2.high hu hU⟩

theorem sz_Trace (t : Tr) (v : Value) (left : Int) (w : World) (B : Nat) (h : TrL w B v t) (hB : B ≤ w.heap.size) (h0 : 0 ≤ left) (h1 : left ≤ 1048576) (ht : (t.xs.length : Int) ≤ left) :
    Calls Try.prog 12 #[v, .int .i64 left] w fun e w' => e = .returned (.int .i64 (left - t.xs.length)) ∧ Below w.heap.size w w' := by
  obtain ⟨vs, rfl, hl⟩ := h
  obtain ⟨ao, cap, rfl, _⟩ := id hl
  go_enter Try.func12, Try.ntmps12
  go_wp2_with fail
  refine (szIntS_le0 t.xs _ left _ B (hl.below ((Below.refl B w).alloc hB _)) h0 h1 ht).mono ?_
  rintro e w1 ⟨rfl, rfl⟩
  have hd : ¬ left - (t.xs.length : Int) < 0 := by omega
  go_wp2
  go_ret
  exact ⟨rfl, (Below.refl _ _).alloc (Nat.le_refl _) _⟩

theorem szgt_Trace (t : Tr) (v : Value) (left : Int) (w : World) (B : Nat) (h : TrL w B v t) (hB : B ≤ w.heap.size) (h0 : 0 ≤ left) (h1 : left ≤ 1048576) (ht : left < (t.xs.length : Int)) :
    Calls Try.prog 12 #[v, .int .i64 left] w fun e w' => e = .returned (.int .i64 (-1)) ∧ Below w.heap.size w w' := by
  obtain ⟨vs, rfl, hl⟩ := h
  obtain ⟨ao, cap, rfl, _⟩ := id hl
  go_enter Try.func12, Try.ntmps12
  go_wp2_with fail
  refine (szIntS_gt0 t.xs _ left _ B (hl.below ((Below.refl B w).alloc hB _)) h0 h1 ht).mono ?_
  rintro e w1 ⟨rfl, rfl⟩
  go_wp2
  go_ret
  exact ⟨rfl, (Below.refl _ _).alloc (Nat.le_refl _) _⟩

set_option maxHeartbeats 400000 in
theorem to_Trace (t : Tr) (v : Value) (w : World) (B : Nat) (h : TrL w B v t) (hB : B ≤ w.heap.size) (hn : t.xs.length ≤ 1048576) :
    Calls Try.prog 14 #[v] w fun e w' => ∃ v', e = .returned v' ∧ TrO w' w.heap.size w'.heap.size v' t ∧ Below w.heap.size w w' := by
  obtain ⟨vs, rfl, hl⟩ := h
  obtain ⟨ao, cap, rfl, _⟩ := id hl
  go_enter Try.func14, Try.ntmps14
  go_wp2_with fail
  refine (toIntS_any t.xs _ _ B (hl.below (((Below.refl B w).alloc hB _).alloc (by simp <;> omega) _ |>.alloc (by simp <;> omega) _)) (by simp <;> omega) hn).mono ?_
  rintro e w1 ⟨v', rfl, hrow, hb⟩
  obtain ⟨ao', cap', rfl⟩ := row_form hrow
  obtain ⟨hc, hf⟩ := bcell hb
  have hz := hb.size
  go_wp2
  refine bodyPost_ret (v := .agg #[.int .i64 t.st, .int .i64 t.start, .slice ao' t.xs.length cap']) (by simp [results, Try.results14, go_sem, hc, hz]) rfl ⟨_, rfl, ⟨_, rfl, ?_⟩, ?_⟩
  · exact (((((Own.of_row hrow).setLow (by simp <;> omega) _).setLow (by simp) _).setLow (by simp) _).setLow (by simp) _).mono (by simp <;> omega) (by simp)
  · exact ((((((((Below.refl _ w).alloc (Nat.le_refl _) _).alloc (by simp <;> omega) _).alloc (by simp <;> omega) _).trans (hb.mono (by simp <;> omega))).setCell (by simp <;> omega) _).setCell (by simp) _).setCell (by simp) _).setCell (by simp) _

theorem eq_Trace (t : Tr) (v v2 : Value) (w : World) (B : Nat) (h : TrL w B v t) (h2 : TrL w B v2 t) (hB : B ≤ w.heap.size) :
    Calls Try.prog 16 #[v, v2] w fun e w' => e = .returned (.bool true) ∧ Below w.heap.size w w' := by
  obtain ⟨vs, rfl, hl⟩ := h
  obtain ⟨vs2, rfl, hl2⟩ := h2
  obtain ⟨ao, cap, rfl, _⟩ := id hl
  obtain ⟨ao2, cap2, rfl, _⟩ := id hl2
  have hb0 : Below B w ((w.alloc (.cells #[.int .i64 t.st, .int .i64 t.start, .slice ao t.xs.length cap] 28)).alloc (.cells #[.int .i64 t.st, .int .i64 t.start, .slice ao2 t.xs.length cap2] 28)) := ((Below.refl B w).alloc hB _).alloc (by simp <;> omega) _
  have c := eqIntS_any t.xs t.xs _ _ _ B (hl.below hb0) (hl2.below hb0) (by simp <;> omega) rfl
  rw [decide_eq_true rfl] at c
  have C := Lib.hid c
  clear c hb0
  go_enter Try.func16, Try.ntmps16
  go_wp2_with fail
  refine C.out.mono ?_
  rintro e w1 ⟨rfl, hb⟩
  go_wp2
  go_ret
  exact ⟨rfl, (((Below.refl _ w).alloc (Nat.le_refl _) _).alloc (by simp <;> omega) _).trans (hb.mono (by simp <;> omega))⟩

theorem TrO.form {w : World} {L B : Nat} {v : Value} {t : Tr} (h : TrO w L B v t) : ∃ ao cap, v = .agg #[.int .i64 t.st, .int .i64 t.start, .slice ao t.xs.length cap] := by
  obtain ⟨vs, rfl, o⟩ := h
  obtain ⟨ao, cap, rfl, _⟩ := o
  exact ⟨ao, cap, rfl⟩
theorem TrL.form {w : World} {B : Nat} {v : Value} {t : Tr} (h : TrL w B v t) : ∃ ao cap, v = .agg #[.int .i64 t.st, .int .i64 t.start, .slice ao t.xs.length cap] := by
  obtain ⟨vs, rfl, o⟩ := h
  obtain ⟨ao, cap, rfl, _⟩ := o
  exact ⟨ao, cap, rfl⟩
set_option maxRecDepth 100000 in
/-- An argument that is a trace. -/
theorem open_Trace {H : Type} {enc : TypeId × Value → H} {w : World} {base : Nat} {v : Value} {d : DataW H} {ps : List MemPlace}
    (hval : Value.okWide Try.prog w .any base 24 v) (hd : DataW.Trod enc Try.prog w 0 (fun _ => true) true 24 v d ps) : ∃ t : Tr, TrL w w.heap.size v t ∧ (I64 t.st ∧ I64 t.start ∧ ∀ x ∈ t.xs, I64 x) := by
  obtain ⟨v0, v1, v2, y0, y1, y2, n, rfl, _, _, h0, h1, h2⟩ := Go.Joins.open_agg3 Try.underlying24 (by kernel_rfl) (by kernel_rfl) hval hd
  obtain ⟨a, e0, _, wa⟩ := DataW.trod_int Try.underlying3 h0
  obtain ⟨b, e1, _, wb⟩ := DataW.trod_int Try.underlying3 h1
  obtain ⟨xs, ⟨vs, hv, hl⟩, hw⟩ := ints_of Try.underlying22 Try.underlying3 (by kernel_rfl) h2
  simp only [List.cons.injEq, and_true] at e0 e1 hv
  subst e0 e1 hv
  exact ⟨⟨a, b, xs⟩, ⟨_, rfl, hl⟩, bounds_i64 wa, bounds_i64 wb, hw⟩
end Go.Proofs.Ytklilfbokpljkac
