/- Traces: what they read as; the laws' helpers on them. -/
import Derived.Test.YtchledcmkjepiaaDoorInt
namespace Go.Proofs.YtchledcmkjepiaaDoor
open Go.ChangeShapes Go.WideShapes Go.ChangeAt Go.RowKit Go.ChangeMaps
set_option linter.unusedSimpArgs false
set_option linter.unusedVariables false

structure Tr where
  st : Int
  start : Int
  xs : List Int
def nilT : Tr := ⟨0, 0, []⟩
/-- A trace that is read: its samples lie in blocks below B. -/
def TrL (w : World) (B : Nat) (v : Value) (t : Tr) : Prop := ∃ vs, v = .agg #[.int .i64 t.st, .int .i64 t.start, vs] ∧ Lst (Value.int .i64) w B vs t.xs
/-- A trace that is owned: its samples lie in blocks from L to B - 1, and may be written. -/
def TrO (w : World) (L B : Nat) (v : Value) (t : Tr) : Prop := ∃ vs, v = .agg #[.int .i64 t.st, .int .i64 t.start, vs] ∧ Own (Value.int .i64) w L B vs t.xs
theorem TrO.lst {w : World} {L B : Nat} {v : Value} {t : Tr} (h : TrO w L B v t) : TrL w B v t := let ⟨vs, h1, h2⟩ := h; ⟨vs, h1, h2.lst⟩
theorem TrL.below {w w' : World} {B : Nat} {v : Value} {t : Tr} (h : TrL w B v t) (hb : Below B w w') : TrL w' B v t := let ⟨vs, h1, h2⟩ := h; ⟨vs, h1, h2.below hb⟩
theorem TrL.mono {w : World} {B B' : Nat} {v : Value} {t : Tr} (h : TrL w B v t) (hb : B ≤ B') : TrL w B' v t := let ⟨vs, h1, h2⟩ := h; ⟨vs, h1, h2.mono hb⟩
theorem TrO.below {w w' : World} {L B : Nat} {v : Value} {t : Tr} (h : TrO w L B v t) (hb : Below B w w') : TrO w' L B v t := let ⟨vs, h1, h2⟩ := h; ⟨vs, h1, h2.below hb⟩
theorem TrO.mono {w : World} {L B L' B' : Nat} {v : Value} {t : Tr} (h : TrO w L B v t) (h1 : L' ≤ L) (h2 : B ≤ B') : TrO w L' B' v t := let ⟨vs, g1, g2⟩ := h; ⟨vs, g1, g2.mono h1 h2⟩
theorem TrO.high {w w' : World} {L B L' U' : Nat} {v : Value} {t : Tr} (h : TrO w L B v t) (hu : Upd L' U' w w') (hU : U' ≤ L) : TrO w' L B v t := let ⟨vs, g1, g2⟩ := h; ⟨vs, g1, g2.high hu hU⟩

theorem eq_Trace (t : Tr) (v v2 : Value) (w : World) (B : Nat) (h : TrL w B v t) (h2 : TrL w B v2 t) (hB : B ≤ w.heap.size) :
    Calls Tryd.prog 7 #[v, v2] w fun e w' => e = .returned (.bool true) ∧ Below w.heap.size w w' := by
  obtain ⟨vs, rfl, hl⟩ := h
  obtain ⟨vs2, rfl, hl2⟩ := h2
  obtain ⟨ao, cap, rfl, _⟩ := id hl
  obtain ⟨ao2, cap2, rfl, _⟩ := id hl2
  have hb0 : Below B w ((w.alloc (.cells #[.int .i64 t.st, .int .i64 t.start, .slice ao t.xs.length cap] 24)).alloc (.cells #[.int .i64 t.st, .int .i64 t.start, .slice ao2 t.xs.length cap2] 24)) := ((Below.refl B w).alloc hB _).alloc (by simp <;> omega) _
  have c := eqIntS_any t.xs t.xs _ _ _ B (hl.below hb0) (hl2.below hb0) (by simp <;> omega) rfl
  rw [decide_eq_true rfl] at c
  have C := Lib.hid c
  clear c hb0
  go_enter Tryd.func7, Tryd.ntmps7
  go_wp2_with fail
  refine C.out.mono ?_
  rintro e w1 ⟨rfl, hb⟩
  go_wp2
  go_ret
  exact ⟨rfl, (((Below.refl _ w).alloc (Nat.le_refl _) _).alloc (by simp <;> omega) _).trans (hb.mono (by simp <;> omega))⟩

theorem mark_Trace (t : Tr) (v : Value) (k : Int) (w : World) (L B : Nat) (h : TrO w L B v t) (hB : B ≤ w.heap.size) (hn : t.xs.length ≤ 1048576) (h0 : 0 ≤ k) (h1 : k ≤ 100000000000) :
    Calls Tryd.prog 8 #[v, .int .i64 k] w fun e w' => e = .returned (.int .i64 (k + t.xs.length)) ∧ TrO w' L B v ⟨t.st, t.start, imarks k t.xs.length⟩ ∧ Upd L B w w' := by
  obtain ⟨vs, rfl, hl⟩ := h
  obtain ⟨ao, cap, rfl, _⟩ := id hl
  go_enter Tryd.func8, Tryd.ntmps8
  go_wp2_with fail
  refine (markIntS_any t.xs _ k _ L B (hl.alloc _) hn h0 h1).mono ?_
  rintro e w1 ⟨rfl, ho, hu⟩
  go_wp2
  go_ret
  exact ⟨rfl, ⟨_, rfl, ho⟩, (Upd.of_below ((Below.refl _ w).alloc (Nat.le_refl _) _)).trans hu⟩

theorem held_Trace (t : Tr) (v : Value) (k : Int) (w : World) (B : Nat) (h : TrL w B v ⟨t.st, t.start, imarks k t.xs.length⟩) (hB : B ≤ w.heap.size) (hn : t.xs.length ≤ 1048576) (h0 : 0 ≤ k) (h1 : k ≤ 100000000000) :
    Calls Tryd.prog 9 #[v, .int .i64 k] w fun e w' => e = .returned (.int .i64 (k + t.xs.length)) ∧ Below w.heap.size w w' := by
  obtain ⟨vs, rfl, hl⟩ := h
  obtain ⟨ao, cap, rfl, _⟩ := id hl
  go_enter Tryd.func9, Tryd.ntmps9
  go_wp2_with fail
  refine (heldIntS_any t.xs.length _ k _ B (hl.below ((Below.refl B w).alloc hB _)) hn h0 h1).mono ?_
  rintro e w1 ⟨rfl, rfl⟩
  go_wp2
  go_ret
  exact ⟨rfl, (Below.refl _ _).alloc (Nat.le_refl _) _⟩
theorem TrO.form {w : World} {L B : Nat} {v : Value} {t : Tr} (h : TrO w L B v t) : ∃ ao cap, v = .agg #[.int .i64 t.st, .int .i64 t.start, .slice ao t.xs.length cap] := by
  obtain ⟨vs, rfl, o⟩ := h
  obtain ⟨ao, cap, rfl, _⟩ := o
  exact ⟨ao, cap, rfl⟩
theorem TrL.form {w : World} {B : Nat} {v : Value} {t : Tr} (h : TrL w B v t) : ∃ ao cap, v = .agg #[.int .i64 t.st, .int .i64 t.start, .slice ao t.xs.length cap] := by
  obtain ⟨vs, rfl, o⟩ := h
  obtain ⟨ao, cap, rfl, _⟩ := o
  exact ⟨ao, cap, rfl⟩
end Go.Proofs.YtchledcmkjepiaaDoor
