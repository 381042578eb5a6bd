/- Integer filters: the windows, an iterator. -/
import Derived.RangeFuncNested
import Derived.RangeFuncBound
import Derived.RangeFuncCalls
import Derived.RangeFuncLeaves
import Derived.RangeFuncBox
import Derived.Shelf.Abstract
import Derived.Shelf.RegionOpen
import Derived.WalkKit
import Derived.OwnWalkIn
import Derived.TacticsInMore
import Derived.LoopNIn
import Derived.LoopIn
import Derived.Maps.AppendAt
import Derived.Sort.QuietIn
import Derived.Maps.OwnIn
import Derived.Lib.MinMax
import Derived.Test.YtklilfbokpljkaaFjA
namespace Go.Proofs.Ytklilfbokpljkaa
open Go.ChangeShapes Go.WideShapes Go.ChangeAt Go.RowKit Go.ChangeMaps Go.Shelf
set_option linter.unusedSimpArgs false
set_option linter.unusedVariables false

attribute [local go_sem] Oper.semAt_some

def KeepsThree (B1 B2 B3 : Nat) (W W' : World) : Prop := W'.cell? ⟨B1, 0, none⟩ = W.cell? ⟨B1, 0, none⟩ ∧ W'.cell? ⟨B2, 0, none⟩ = W.cell? ⟨B2, 0, none⟩ ∧ W'.cell? ⟨B3, 0, none⟩ = W.cell? ⟨B3, 0, none⟩
/-- The window of place i, as a slice of the samples. -/
def winV (bk off n cap bf af i : Nat) : Value := .slice (some ⟨bk, off + (i - bf), none⟩) (min n (i + af + 1) - (i - bf)) (cap - (i - bf))
theorem fin_take {n k : Nat} (h : k < n) : (List.finRange n).take k ++ [⟨k, h⟩] = (List.finRange n).take (k + 1) := by
  rw [List.take_succ_eq_append_getElem (by simpa using h)]
  simp

set_option maxRecDepth 100000 in
set_option maxHeartbeats 1000000 in
theorem win1_in (F : Fence) (m : Nat) (h6 : F.fn 165) (hro : F.round = none) (hm : 1 ≤ m) (l B1 B2 B3 : Nat) (ao : Option Addr) (n cap bf af bk off : Nat)
    (hao : 0 < n → ao = some ⟨bk, off, none⟩) (hnc : n ≤ cap) (hn : n ≤ 1048576) (hbf : bf ≤ 1000) (haf : af ≤ 1000) (J Jx : List (Fin n) → World → Prop)
    (hY : ∀ pre x W, J pre W → pre.length < n → YieldAt F (m - 1) Try.prog l #[winV bk off n cap bf af x.1] W fun e W' =>
      (e = .returned (.bool true) ∧ J (pre ++ [x]) W' ∧ KeepsThree B1 B2 B3 W W') ∨ (e = .returned (.bool false) ∧ Jx (pre ++ [x]) W'))
    (W : World) (hJ : AbidesFrom W.heap.size J) (hc1 : W.cell? ⟨B1, 0, none⟩ = some (.slice ao n cap)) (hc2 : W.cell? ⟨B2, 0, none⟩ = some (.int .i64 bf)) (hc3 : W.cell? ⟨B3, 0, none⟩ = some (.int .i64 af)) (h0 : J [] W) :
    CallsIn F m Try.prog 165 #[.func (.yield l) #[] #[], .pointer (some ⟨B1, 0, none⟩), .pointer (some ⟨B2, 0, none⟩), .pointer (some ⟨B3, 0, none⟩)] W fun e W' => (∃ v, e = .returned v) ∧
      ((∃ ys, ys = List.finRange n ∧ J ys W') ∨ (∃ pre, True ∧ Jx pre W')) := by
  refine callsIn_of_wp Try.func165 rfl h6 ?_ hro
  simp only [Try.ntmps165, List.size_toArray, List.length_cons, List.length_nil, Nat.reduceAdd, Nat.reduceSub, Array.replicate_succ, Array.replicate_zero, List.push_toArray, List.append_toArray, List.nil_append, List.cons_append]
  gi_wp2
  gi_loopw [8] (fun i wr => ∃ (k : Nat), k ≤ n ∧ i = .int .i64 k ∧ J ((List.finRange n).take k) wr ∧ wr.cell? ⟨B1, 0, none⟩ = some (.slice ao n cap) ∧ wr.cell? ⟨B2, 0, none⟩ = some (.int .i64 bf) ∧ wr.cell? ⟨B3, 0, none⟩ = some (.int .i64 af))
    (fun i _ => n - (intOf i).toNat)
  case atStart => exact ⟨0, Nat.zero_le _, rfl, h0, hc1, hc2, hc3⟩
  case round =>
    obtain ⟨k, hk, rfl, hJk, hd1, hd2, hd3⟩ := hrel
    by_cases hlt : k < n
    · obtain rfl := hao (by omega)
      obtain ⟨lo, hlo⟩ : ∃ lo, k - bf = lo := ⟨_, rfl⟩
      obtain ⟨hh, hhh⟩ : ∃ hh, min n (k + af + 1) = hh := ⟨_, rfl⟩
      have e1 : max (0 : Int) ((k : Int) - (bf : Int)) = (lo : Int) := by omega
      have e2 : min (n : Int) ((k : Int) + (af : Int) + 1) = (hh : Int) := by omega
      have hl1 : lo ≤ hh := by omega
      have hl2 : hh ≤ n := by omega
      have hl4 : ¬ cap = lo := by omega
      obtain ⟨fn, tmps, assign, body, hy, hR⟩ := hY _ ⟨k, hlt⟩ wr hJk (by simp; omega)
      have hv : winV bk off n cap bf af k = .slice (some ⟨bk, off + lo, none⟩) (hh - lo) (cap - lo) := by unfold winV; rw [hlo, hhh]
      simp only [hv] at hy
      rw [fin_take hlt] at hR
      clear hlo hhh hv
      gi_wp2
      refine hR.mono ?_
      rintro e W3 (⟨rfl, hJ3, hk3⟩ | ⟨rfl, hJx3⟩)
      · have hd13 := hk3.1.trans hd1
        have hd23 := hk3.2.1.trans hd2
        have hd33 := hk3.2.2.trans hd3
        clear e1 e2
        gi_wp2
        go_roundw
        case rel => exact ⟨k + 1, by omega, by go_num, hJ3, hd13, hd23, hd33⟩
        case measure => simp [intOf]; omega
      · gi_wp2
        refine bodyPost_ret (results_none rfl _ _ _) rfl ?_
        exact ⟨⟨_, rfl⟩, .inr ⟨_, trivial, hJx3⟩⟩
    · obtain rfl : k = n := by omega
      gi_wp2
      go_end0
      exact ⟨⟨_, rfl⟩, .inl ⟨_, by rw [List.take_of_length_le (by simp)], hJk⟩⟩
end Go.Proofs.Ytklilfbokpljkaa
