/- Marks dropped: the program. -/
import Derived.Test.YtkafmfpbfedmdabTkB
import Derived.Test.YtkafmfpbfedmdabTkC2
import Derived.Test.YtkafmfpbfedmdabTkJ
import Derived.Test.YtkafmfpbfedmdabRed
namespace Go.Proofs.Ytkafmfpbfedmdab
open Go.ChangeShapes Go.WideShapes Go.ChangeAt Go.RowKit Go.ChangeMaps Go.Sort
set_option linter.unusedSimpArgs false
set_option linter.unusedVariables false
set_option linter.unusedSimpArgs false
set_option linter.unusedVariables false

theorem lst_parts {out : List GClockMark} {v : Value} {w : World} {B : Nat} (h : ClockMarkL w B v out) (hB : B ≤ w.heap.size) (hl : 1 ≤ out.length) :
    ∃ b off cap, v = .slice (some ⟨b, off, none⟩) out.length cap ∧ out.length ≤ cap ∧ cap ≤ maxLen ∧ b < B ∧ (∀ k x, out[k]? = some x → ∀ j c, (encClockMark x)[j]? = some c → w.cell? ⟨b, off + k * 2 + j, none⟩ = some c) ∧
      ∀ w3, Below w.heap.size w w3 → ∀ i k c, i ≤ k → k ≤ out.length → SrcK w3 2 (.slice (some ⟨b, off + i * 2, none⟩) (k - i) c) (k - i) (((out.drop i).take (k - i)).flatMap encClockMark) := by
  rcases h.split encClockMark_len (by omega) with ⟨-, e1⟩ | ⟨a, cap, rfl, hcap, hmax, hcc⟩
  · rw [e1] at hl; simp at hl
  obtain ⟨ao, cap', e, _, _, _, hc⟩ := h
  obtain ⟨x, hx⟩ := get_of_lt (l := out) (k := 0) (by omega)
  obtain ⟨b, off, e2, hb, -⟩ := hc 0 x hx
  simp only [Value.slice.injEq] at e
  rw [e2] at e
  obtain ⟨e3, -, -⟩ := e
  simp only [Option.some.injEq] at e3
  subst e3
  refine ⟨b, off, cap, rfl, hcap, hmax, hb, fun k x hx j c hj => ?_, fun w3 q i k c h1 h2 => src_mid hcc hB q i k c h1 h2⟩
  obtain ⟨b', off', e4, -, h4⟩ := hc k x hx
  rw [e2] at e4
  simp only [Option.some.injEq, Addr.mk.injEq, and_true] at e4
  obtain ⟨rfl, rfl⟩ := e4
  exact h4 j c hj
end Go.Proofs.Ytkafmfpbfedmdab
