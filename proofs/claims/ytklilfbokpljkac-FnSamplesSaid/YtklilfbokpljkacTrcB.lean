/- Traces in memory of their own: more. -/
import Derived.Test.YtklilfbokpljkacTrc
namespace Go.Proofs.Ytklilfbokpljkac
open Go.ChangeShapes Go.WideShapes Go.ChangeAt Go.RowKit Go.ChangeMaps
set_option linter.unusedSimpArgs false
set_option linter.unusedVariables false

theorem TrO.setLow {w : World} {L B : Nat} {v : Value} {t : Tr} (h : TrO w L B v t) {p : Addr} (hp : p.block < L) (u : Value) : TrO (w.setCell p u) L B v t := let ⟨vs, h1, h2⟩ := h; ⟨vs, h1, h2.setLow hp u⟩
theorem TrO.alloc {w : World} {L B : Nat} {v : Value} {t : Tr} (h : TrO w L B v t) (o : Obj) : TrO (w.alloc o) L B v t := let ⟨vs, h1, h2⟩ := h; ⟨vs, h1, h2.alloc o⟩
end Go.Proofs.Ytklilfbokpljkac
