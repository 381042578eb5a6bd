/- Traces: what they read as; the laws' helpers on them. -/
import Derived.Test.YtoogofceoinniabInt
namespace Go.Proofs.Ytoogofceoinniab
open Go.ChangeShapes Go.WideShapes Go.ChangeAt Go.RowKit Go.ChangeMaps
set_option linter.unusedSimpArgs false
set_option linter.unusedVariables false

structure Tr where
  st : Int
  start : Int
  xs : List Int
def nilT : Tr := ⟨0, 0, []⟩
/-- A trace that is read: its samples lie in blocks below B. -/
def TrL (w : World) (B : Nat) (v : Value) (t : Tr) : Prop := ∃ vs, v = .agg #[.int .i64 t.st, .int .i64 t.start, vs] ∧ Lst (Value.int .i64) w B vs t.xs
/-- A trace that is owned: its samples lie in blocks from L to B - 1, and may be written. -/
def TrO (w : World) (L B : Nat) (v : Value) (t : Tr) : Prop := ∃ vs, v = .agg #[.int .i64 t.st, .int .i64 t.start, vs] ∧ Own (Value.int .i64) w L B vs t.xs
theorem TrO.lst {w : World} {L B : Nat} {v : Value} {t : Tr} (h : TrO w L B v t) : TrL w B v t := let ⟨vs, h1, h2⟩ := h; ⟨vs, h1, h2.lst⟩
theorem TrL.below {w w' : World} {B : Nat} {v : Value} {t : Tr} (h : TrL w B v t) (hb : Below B w w') : TrL w' B v t := let ⟨vs, h1, h2⟩ := h; ⟨vs, h1, h2.below hb⟩
theorem TrL.mono {w : World} {B B' : Nat} {v : Value} {t : Tr} (h : TrL w B v t) (hb : B ≤ B') : TrL w B' v t := let ⟨vs, h1, h2⟩ := h; ⟨vs, h1, h2.mono hb⟩
theorem TrO.below {w w' : World} {L B : Nat} {v : Value} {t : Tr} (h : TrO w L B v t) (hb : Below B w w') : TrO w' L B v t := let ⟨vs, h1, h2⟩ := h; ⟨vs, h1, h2.below hb⟩
theorem TrO.mono {w : World} {L B L' B' : Nat} {v : Value} {t : Tr} (h : TrO w L B v t) (h1 : L' ≤ L) (h2 : B ≤ B') : TrO w L' B' v t := let ⟨vs, g1, g2⟩ := h; ⟨vs, g1, g2.mono h1 h2⟩
theorem TrO.high {w w' : World} {L B L' U' : Nat} {v : Value} {t : Tr} (h : TrO w L B v t) (hu : Upd L' U' w w') (hU : U' ≤ L) : TrO w' L B v t := let ⟨vs, g1, g2⟩ := h; ⟨vs, g1, g2.high hu hU⟩

theorem TrO.form {w : World} {L B : Nat} {v : Value} {t : Tr} (h : TrO w L B v t) : ∃ ao cap, v = .agg #[.int .i64 t.st, .int .i64 t.start, .slice ao t.xs.length cap] := by
  obtain ⟨vs, rfl, o⟩ := h
  obtain ⟨ao, cap, rfl, _⟩ := o
  exact ⟨ao, cap, rfl⟩
theorem TrL.form {w : World} {B : Nat} {v : Value} {t : Tr} (h : TrL w B v t) : ∃ ao cap, v = .agg #[.int .i64 t.st, .int .i64 t.start, .slice ao t.xs.length cap] := by
  obtain ⟨vs, rfl, o⟩ := h
  obtain ⟨ao, cap, rfl, _⟩ := o
  exact ⟨ao, cap, rfl⟩
end Go.Proofs.Ytoogofceoinniab
