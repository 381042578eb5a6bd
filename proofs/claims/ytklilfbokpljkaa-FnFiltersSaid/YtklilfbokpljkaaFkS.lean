/- Integer filters: the program's weighted sum of a window. -/
import Derived.Test.YtklilfbokpljkaaFkB
import Derived.BigQuiet
import Derived.IntWalk
namespace Go.Proofs.Ytklilfbokpljkaa
open Go.ChangeShapes Go.WideShapes Go.ChangeAt Go.RowKit Go.ChangeMaps
set_option linter.unusedSimpArgs false
set_option linter.unusedVariables false

set_option maxRecDepth 100000 in
set_option maxHeartbeats 1000000 in
theorem implWsum (L ws xs : List Int) (i : Nat) (v u : Value) (w : World) (B : Nat) (h : Lst (Value.int .i64) w B v L) (hu : Lst (Value.int .i64) w B u ws) (hn : L.length ≤ ws.length) (hn5 : ws.length ≤ 5)
    (hw : ∀ y ∈ ws, -100 ≤ y ∧ y ≤ 100) (hx : ∀ x ∈ xs, -100000 ≤ x ∧ x ≤ 100000) (hg : ∀ j, j < L.length → L[L.length - 1 - j]? = some (xs.getD (i - j) 0)) :
    Calls Try.prog 134 #[v, u] w fun e w' => e = .returned (.int .i64 (wsum ws xs i L.length)) ∧ ∃ m, w' = w.drewN m := by
  obtain ⟨ao, cap, rfl, hcap, hmax, -, hc⟩ := h
  obtain ⟨au, cau, rfl, hcau, hmau, -, hcu⟩ := hu
  unfold maxLen at hmax hmau
  have HC := Lib.hid hc
  have HU := Lib.hid hcu
  have HX := Lib.hid hx
  have HW := Lib.hid hw
  have HG := Lib.hid hg
  clear hc hcu hx hw hg
  go_enter Try.func134, Try.ntmps134
  go_wp2
  go_loopw [5, 9] (fun s q wr => ∃ (j n : Nat), j ≤ L.length ∧ q = .int .i64 j ∧ s = .int .i64 (wsum ws xs i j) ∧ wr = w.drewN n) (fun _ q _ => L.length - (intOf q).toNat)
  case atStart => exact ⟨0, 0, Nat.zero_le _, rfl, rfl, rfl⟩
  case round =>
    obtain ⟨j, nd, hj, rfl, rfl, rfl⟩ := hrel
    by_cases hlt : j < L.length
    case neg =>
      obtain rfl : j = L.length := by omega
      go_wp2
      go_ret
      exact ⟨rfl, _, rfl⟩
    have sb := wsum_bd (W := 100) (X := 100000) (by omega) (by omega) HW.out HX.out i j
    have sb1 : -1000000000 ≤ wsum ws xs i j ∧ wsum ws xs i j ≤ 1000000000 := by omega
    obtain ⟨sb2, sb3⟩ := sb1
    clear sb
    obtain ⟨p, hp⟩ : ∃ p, L.length - 1 - j = p := ⟨_, rfl⟩
    have hx := HG.out j hlt
    rw [hp] at hx
    obtain ⟨bx1, bx2⟩ := getD_bd (l := xs) (M := 100000) (by omega) HX.out (i - j)
    obtain ⟨y, hy⟩ := get_of_lt (show j < ws.length by omega)
    have HS := Lib.hid (show wsum ws xs i j + y * xs.getD (i - j) 0 = wsum ws xs i (j + 1) by simp only [wsum]; rw [get_getD hy])
    generalize xs.getD (i - j) 0 = x at *
    obtain ⟨b, off, rfl, hb, hcx⟩ := HC.out _ x hx
    obtain ⟨b2, off2, rfl, hb2, hcy⟩ := HU.out _ y hy
    obtain ⟨by1, by2⟩ := HW.out y (List.mem_of_getElem? hy)
    generalize wsum ws xs i j = s at *
    have mb := mul_bd (a := y) (b := x) (A := 100) (B := 100000) (by omega) (by omega) ⟨by1, by2⟩ ⟨bx1, bx2⟩
    obtain ⟨z, hz⟩ : ∃ z, y * x = z := ⟨_, rfl⟩
    rw [hz] at HS mb
    have s1 : IntKind.i64.wrap (y * x) = z := by rw [hz]; exact IntWalk.i64_in _ (by omega)
    have s2 : IntKind.i64.wrap (s + z) = s + z := IntWalk.i64_in _ (by omega)
    have s4 : IntKind.i64.wrap ((L.length : Int) - 1) = (L.length : Int) - 1 := IntWalk.i64_in _ (by omega)
    have s3 : IntKind.i64.wrap ((L.length : Int) - 1 - (j : Int)) = (p : Int) := by rw [IntWalk.i64_in _ (by omega)]; omega
    have i0 : (0 : Int) ≤ (j : Int) := by omega
    have i1 : (j : Int) < (ws.length : Int) := by omega
    have i2 : (0 : Int) ≤ (p : Int) := by omega
    have i3 : (p : Int) < (L.length : Int) := by omega
    clear hx hy hp hz mb
    go_wp2
    go_quiet (fail)
    clear s1 s2 s3 s4
    go_wp2
    go_roundw
    case rel => exact ⟨j + 1, nd + nq, by omega, by go_num, by rw [HS.out], by rfl⟩
    case measure => simp [intOf]; omega
/-- The window's samples, from the last one back. -/
theorem win_back {xs : List Int} {b i : Nat} (hi : i < xs.length) : ∀ j, j < (win xs b 0 i).length → (win xs b 0 i)[(win xs b 0 i).length - 1 - j]? = some (xs.getD (i - j) 0) := by
  intro j hj
  have hl := win_len xs b 0 i
  rw [win_get (by omega)]
  have e : i - b + ((win xs b 0 i).length - 1 - j) = i - j := by omega
  rw [e, List.getElem?_eq_getElem (by omega)]
  simp [List.getD, List.getElem?_eq_getElem (show i - j < xs.length by omega)]
end Go.Proofs.Ytklilfbokpljkaa
