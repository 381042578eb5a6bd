/- The program's median of numbers. -/
import Derived.Test.YtklilfbokpljkaaFkE
import Derived.IntWalk
import Derived.Laws.OwnMore
namespace Go.Proofs.Ytklilfbokpljkaa
open Go.ChangeShapes Go.WideShapes Go.ChangeAt Go.RowKit Go.ChangeMaps Go.Shelf
set_option linter.unusedSimpArgs false
set_option linter.unusedVariables false
set_option linter.unusedSimpArgs false
set_option linter.unusedVariables false

theorem row_cellL {w : World} {base n : Nat} {e : TypeId} {g cap : Nat} {o : List Int} (h : w.ownsRow base e 1 (.slice (some ⟨g, 0, none⟩) n cap) n (o.map (Value.int .i64))) {j : Nat} {y : Int} (hj : o[j]? = some y) : w.cell? ⟨g, j, none⟩ = some (.int .i64 y) := by
  have h2 := h.cells (g := g) rfl j (.int .i64 y) (by rw [List.getElem?_map, hj]; rfl)
  rw [Addr.add_lit, Nat.zero_add] at h2
  exact h2
theorem row_someL {w : World} {base size n : Nat} {e : TypeId} {v : Value} {xs : List Value} (h : w.ownsRow base e size v n xs) (hn : 0 < n) : ∃ g cap, v = .slice (some ⟨g, 0, none⟩) n cap ∧ n ≤ cap ∧ cap ≤ maxLen ∧ base ≤ g ∧ g < w.heap.size := by
  rcases h.2 with ⟨rfl, rfl⟩ | ⟨g, cap, cur, rfl, h1, h2, h3, h4, _⟩
  · omega
  · exact ⟨g, cap, rfl, h3, h4, h1, (Array.getElem?_eq_some_iff.1 h2).1⟩
set_option maxRecDepth 100000 in
set_option maxHeartbeats 1000000 in
theorem implMid (zs : List Int) (v : Value) (w : World) (B : Nat) (h : Lst (Value.int .i64) w B v zs) (hB : B ≤ w.heap.size) (hn : zs.length ≤ 1048576) (h0 : 0 < zs.length) :
    Calls Try.prog 127 #[v] w fun e w' => e = .returned (.int .i64 (mid zs)) ∧ Below w.heap.size w w' := by
  have hL := h.mono hB
  obtain ⟨ao, cap, rfl⟩ := h.form
  obtain ⟨W0, hW0⟩ : ∃ W0, w.alloc (.cells #[.slice ao zs.length cap] 43) = W0 := ⟨_, rfl⟩
  have N0 : Below w.heap.size w W0 := hW0 ▸ (Below.refl w.heap.size w).alloc (Nat.le_refl _) _
  have z0 : W0.heap.size = w.heap.size + 1 := by rw [← hW0]; simp
  have c0 : W0.cell? ⟨w.heap.size, 0, none⟩ = some (.slice ao zs.length cap) := by rw [← hW0]; exact (Boxed.new w _ _).cell
  have hL0 := (hL.below N0).mono (B' := W0.heap.size) (by omega)
  have CV := Lib.hid (callsIn_wide.1 (vals_in Fence.wide 10 trivial rfl ao zs.length cap w))
  rw [hW0] at CV
  have CS := Lib.hid (callsIn_wide.1 (sorted_in 10 (by omega) w.heap.size _ zs hn h0 W0 (by omega) c0 hL0))
  have hmg := mid_get h0
  generalize mid zs = m at *
  obtain ⟨mm, hmm⟩ : ∃ mm, (zs.length - 1) / 2 = mm := ⟨_, rfl⟩
  rw [hmm] at hmg
  have d1 : ((zs.length : Int) - 1).tdiv 2 = (mm : Int) := by rw [Int.tdiv_eq_ediv_of_nonneg (by omega), ← hmm]; omega
  have s4 : IntKind.i64.wrap ((zs.length : Int) - 1) = (zs.length : Int) - 1 := IntWalk.i64_in _ (by omega)
  have s5 : IntKind.i64.wrap (mm : Int) = (mm : Int) := IntWalk.i64_in _ (by omega)
  have i0 : (0 : Int) ≤ (mm : Int) := by omega
  have i1 : (mm : Int) < (zs.length : Int) := by omega
  have HMG := Lib.hid hmg
  clear h hL hL0 c0 hmg hmm
  go_enter Try.func127, Try.ntmps127
  go_wp2_with fail
  refine CV.out.mono ?_
  rintro e w1 ⟨rfl, q1⟩
  obtain rfl : W0 = w1 := q1.symm
  go_wp2_with fail
  refine CS.out.mono ?_
  rintro e w2 ⟨v2, rfl, hrow, hb⟩
  obtain ⟨g, c, rfl, -, -, -, -⟩ := row_someL hrow h0
  have hcell := row_cellL hrow HMG.out
  go_wp2
  go_ret
  exact ⟨rfl, N0.trans (hb.mono N0.size)⟩
end Go.Proofs.Ytklilfbokpljkaa
