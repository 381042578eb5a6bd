/- Integer filters: the specification's bound of weights. -/
import Derived.Test.YtklilfbokpljkaaFiA
import Derived.BigQuiet
import Derived.IntWalk
namespace Go.Proofs.Ytklilfbokpljkaa
open Go.ChangeShapes Go.WideShapes Go.ChangeAt Go.RowKit Go.ChangeMaps
set_option linter.unusedSimpArgs false
set_option linter.unusedVariables false

set_option maxRecDepth 100000 in
set_option maxHeartbeats 1000000 in
theorem specWb (ws : List Int) (v : Value) (w : World) (B : Nat) (h : Lst (Value.int .i64) w B v ws) (hB : B ≤ w.heap.size) (hn : ws.length ≤ 1048576) :
    Calls Try.prog 49 #[v] w fun e w' => e = .returned (.tuple #[.int .i64 (numWb ws), .bool (okWs ws)]) ∧ Below w.heap.size w w' := by
  cases hk : okWs ws with
  | false =>
    have e2 : numWb ws = 0 := by unfold numWb; rw [hk]; rfl
    have C := Lib.hid (specWsB ws v _ B false h hk)
    rw [e2]
    obtain ⟨ao, cap, rfl⟩ := h.form
    clear e2 hk
    go_enter Try.func49, Try.ntmps49
    go_wp2_with fail
    refine C.out.mono ?_
    rintro e w1 ⟨rfl, rfl⟩
    go_wp2
    go_ret2
    exact ⟨rfl, Below.refl _ _⟩
  | true =>
    have e2 : numWb ws = 100000 * asum ws := by unfold numWb; rw [hk]; rfl
    have C := Lib.hid (specWsB ws v _ B true h hk)
    obtain ⟨⟨gw1, gw2⟩, gw⟩ := okWs_yes hk
    rw [e2]
    obtain ⟨ao, cap, rfl, hcap, hmax, hnn, hc⟩ := h
    unfold maxLen at hmax
    have HX := Lib.hid gw
    have HC := Lib.hid hc
    clear e2 hk gw hc hnn
    go_enter Try.func49, Try.ntmps49
    go_wp2_with fail
    refine C.out.mono ?_
    rintro e w1 ⟨rfl, rfl⟩
    go_wp2
    go_loopw [4, 5] (fun s i wr => ∃ (k : Nat), k ≤ ws.length ∧ i = .int .i64 k ∧ s = .int .i64 (asum (ws.take k)) ∧ wr = w1) (fun _ i _ => ws.length - (intOf i).toNat)
    case atStart => exact ⟨0, Nat.zero_le _, rfl, by simp [asum], by trivial⟩
    case round =>
      obtain ⟨k, hk, rfl, rfl, rfl⟩ := hrel
      have sb := asum_bd (l := ws.take k) (M := 100) (fun x hx => HX.out x (List.mem_of_mem_take hx))
      have sb1 : (ws.take k).length ≤ 5 := by rw [List.length_take]; omega
      generalize (ws.take k).length = L at *
      have sb2 : 0 ≤ asum (ws.take k) ∧ asum (ws.take k) ≤ 500 := by omega
      obtain ⟨sb3, sb4⟩ := sb2
      clear sb sb1
      by_cases hlt : k < ws.length
      case neg =>
        obtain rfl : k = ws.length := by omega
        rw [List.take_length] at sb3 sb4 ⊢
        go_wp2
        go_ret2
        exact ⟨rfl, Below.refl _ _⟩
      obtain ⟨x, hx⟩ := get_of_lt hlt
      obtain ⟨bx1, bx2⟩ := HX.out x (List.mem_of_getElem? hx)
      obtain ⟨b, off, rfl, hb, hcx⟩ := HC.out k x hx
      have HS := Lib.hid (show asum (ws.take k) + ab x = asum (ws.take (k + 1)) by rw [take_snoc hx, asum_snoc])
      generalize asum (ws.take k) = s at *
      have ab1 : 0 ≤ ab x ∧ ab x ≤ 100 := ⟨ab_nonneg x, by unfold ab; split <;> omega⟩
      have C2 := Lib.hid (fun w => sizeAny x _ w (by omega) (by omega) rfl)
      obtain ⟨ab2, ab3⟩ := ab1
      generalize ab x = z at *
      clear hx
      go_wp2_with fail
      refine (C2.out _).mono ?_
      rintro e w4 ⟨rfl, rfl⟩
      go_wp2
      go_roundw
      case rel => exact ⟨k + 1, by omega, by go_num, by rw [HS.out], by trivial⟩
      case measure => simp [intOf]; omega
end Go.Proofs.Ytklilfbokpljkaa
