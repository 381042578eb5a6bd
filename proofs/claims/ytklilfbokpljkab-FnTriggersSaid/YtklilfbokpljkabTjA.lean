/- Triggers: the program's tests, the trigger, its windows. -/
import Derived.Test.YtklilfbokpljkabTgD
import Derived.Test.YtklilfbokpljkabCln
import Derived.Lib.QuietBelow
namespace Go.Proofs.Ytklilfbokpljkab
open Go.ChangeShapes Go.WideShapes Go.ChangeAt Go.RowKit Go.ChangeMaps Go.Sort
set_option linter.unusedSimpArgs false
set_option linter.unusedVariables false
set_option linter.unusedSimpArgs false
set_option linter.unusedVariables false

/-- areWithin at one number, which lies in a block of its own. -/
theorem withinOneQ (lo hi n : Int) (b : Nat) (u : Bool) (w : World) (hb : Bx w b [.int .i64 n]) (hu : decide (lo ≤ n ∧ n ≤ hi) = u) :
    Calls Try.prog 80 #[.int .i64 lo, .int .i64 hi, .slice (some ⟨b, 0, none⟩) 1 1] w fun e w' => e = .returned (.bool u) ∧ w' = w := by
  have c0 : w.cell? ⟨b, 0, none⟩ = some (.int .i64 n) := hb.2 0 _ rfl
  have HU := Lib.hid hu
  clear hu hb
  go_enter Try.func80, Try.ntmps80
  go_wp2
  go_loop [11] (fun i => i = .int .i64 0 ∨ (i = .int .i64 1 ∧ Hid (lo ≤ n ∧ n ≤ hi))) (fun i => 1 - (intOf i).toNat)
  case atStart => exact Or.inl rfl
  case round =>
    rcases hrel with rfl | ⟨rfl, HO⟩
    · by_cases h1 : lo ≤ n
      · by_cases h2 : n ≤ hi
        · have HX := Lib.hid (show lo ≤ n ∧ n ≤ hi from ⟨h1, h2⟩)
          go_wp2
          go_round
          case rel => exact Or.inr ⟨by go_num, HX⟩
          case measure => simp [intOf]
        · have HF : Hid (false = u) := Lib.hid (by rw [← HU.out]; exact (decide_eq_false fun g => h2 g.2).symm)
          go_wp2
          go_ret
          exact ⟨ret_bool HF.out, rfl⟩
      · have HF : Hid (false = u) := Lib.hid (by rw [← HU.out]; exact (decide_eq_false fun g => h1 g.1).symm)
        go_wp2
        go_ret
        exact ⟨ret_bool HF.out, rfl⟩
    · have HF : Hid (true = u) := Lib.hid (by rw [← HU.out]; exact (decide_eq_true HO.out).symm)
      go_wp2
      go_ret
      exact ⟨ret_bool HF.out, rfl⟩
set_option maxRecDepth 100000 in
set_option maxHeartbeats 1000000 in
theorem implGoodS (s : GSetting) (u : Bool) (w : World) (hu : goodS s = u) (hw : wfSetting s) :
    Calls Try.prog 46 #[aggS s] w fun e w' => e = .returned (.bool u) ∧ Below w.heap.size w w' := by
  obtain ⟨w1, w2, w3, w4⟩ := hw
  unfold I64 at w1 w2 w3 w4
  have HU := Lib.hid hu
  clear hu
  obtain ⟨W0, hW0⟩ : ∃ W0, w.alloc (.cells #[.int .i64 s.pShort, .int .i64 s.pLong, .int .i64 s.pOn, .int .i64 s.pOff] 28) = W0 := ⟨_, rfl⟩
  have N0 : Below w.heap.size w W0 := hW0 ▸ (Below.refl w.heap.size w).alloc (Nat.le_refl _) _
  have bx0 : Bx W0 w.heap.size [.int .i64 s.pShort, .int .i64 s.pLong, .int .i64 s.pOn, .int .i64 s.pOff] := hW0 ▸ Bx.new w [.int .i64 s.pShort, .int .i64 s.pLong, .int .i64 s.pOn, .int .i64 s.pOff] 28
  go_enter Try.func46, Try.ntmps46
  have d0 := bx0.2 0 _ rfl
  have d1 := bx0.2 1 _ rfl
  have d2 := bx0.2 2 _ rfl
  have d3 := bx0.2 3 _ rfl
  obtain ⟨W1, hW1⟩ : ∃ W1, W0.alloc (.cells #[.int .i64 s.pShort] 3) = W1 := ⟨_, rfl⟩
  have N1 : Below w.heap.size w W1 := hW1 ▸ N0.alloc N0.size _
  have bx1 : Bx W1 w.heap.size [.int .i64 s.pShort, .int .i64 s.pLong, .int .i64 s.pOn, .int .i64 s.pOff] := hW1 ▸ bx0.alloc _
  have b1 : Bx W1 W0.heap.size [.int .i64 s.pShort] := hW1 ▸ Bx.new W0 [.int .i64 s.pShort] 3
  go_wp2_with fail
  clear hW0
  clear hW1 d0 d1 d2 d3
  refine (withinOneQ (1) (5) s.pShort _ _ _ b1 rfl).mono ?_
  rintro e w9 ⟨rfl, q9⟩
  obtain rfl : W1 = w9 := q9.symm
  clear b1 bx0
  by_cases h1 : 1 ≤ s.pShort ∧ s.pShort ≤ 5
  case neg =>
    have HF : Hid (false = u) := Lib.hid (by rw [← HU.out, goodS_no (s := s) (fun g => h1 g.1)])
    rw [decide_eq_false h1]
    go_wp2
    go_ret
    exact ⟨ret_bool HF.out, N1⟩
  rw [decide_eq_true h1]
  have d0 := bx1.2 0 _ rfl
  have d1 := bx1.2 1 _ rfl
  have d2 := bx1.2 2 _ rfl
  have d3 := bx1.2 3 _ rfl
  obtain ⟨W2, hW2⟩ : ∃ W2, W1.alloc (.cells #[.int .i64 s.pLong] 3) = W2 := ⟨_, rfl⟩
  have N2 : Below w.heap.size w W2 := hW2 ▸ N1.alloc N1.size _
  have bx2 : Bx W2 w.heap.size [.int .i64 s.pShort, .int .i64 s.pLong, .int .i64 s.pOn, .int .i64 s.pOff] := hW2 ▸ bx1.alloc _
  have b2 : Bx W2 W1.heap.size [.int .i64 s.pLong] := hW2 ▸ Bx.new W1 [.int .i64 s.pLong] 3
  go_wp2_with fail
  clear hW2 d0 d1 d2 d3
  refine (withinOneQ (s.pShort + 1) (20) s.pLong _ _ _ b2 rfl).mono ?_
  rintro e w9 ⟨rfl, q9⟩
  obtain rfl : W2 = w9 := q9.symm
  clear b2 bx1
  by_cases h2 : s.pShort + 1 ≤ s.pLong ∧ s.pLong ≤ 20
  case neg =>
    have HF : Hid (false = u) := Lib.hid (by rw [← HU.out, goodS_no (s := s) (fun g => h2 g.2.1)])
    rw [decide_eq_false h2]
    go_wp2
    go_ret
    exact ⟨ret_bool HF.out, N2⟩
  rw [decide_eq_true h2]
  have d0 := bx2.2 0 _ rfl
  have d1 := bx2.2 1 _ rfl
  have d2 := bx2.2 2 _ rfl
  have d3 := bx2.2 3 _ rfl
  obtain ⟨W3, hW3⟩ : ∃ W3, W2.alloc (.cells #[.int .i64 s.pOn] 3) = W3 := ⟨_, rfl⟩
  have N3 : Below w.heap.size w W3 := hW3 ▸ N2.alloc N2.size _
  have bx3 : Bx W3 w.heap.size [.int .i64 s.pShort, .int .i64 s.pLong, .int .i64 s.pOn, .int .i64 s.pOff] := hW3 ▸ bx2.alloc _
  have b3 : Bx W3 W2.heap.size [.int .i64 s.pOn] := hW3 ▸ Bx.new W2 [.int .i64 s.pOn] 3
  go_wp2_with fail
  clear hW3 d0 d1 d2 d3
  refine (withinOneQ (10) (1000) s.pOn _ _ _ b3 rfl).mono ?_
  rintro e w9 ⟨rfl, q9⟩
  obtain rfl : W3 = w9 := q9.symm
  clear b3 bx2
  by_cases h3 : 10 ≤ s.pOn ∧ s.pOn ≤ 1000
  case neg =>
    have HF : Hid (false = u) := Lib.hid (by rw [← HU.out, goodS_no (s := s) (fun g => h3 g.2.2.1)])
    rw [decide_eq_false h3]
    go_wp2
    go_ret
    exact ⟨ret_bool HF.out, N3⟩
  rw [decide_eq_true h3]
  have d0 := bx3.2 0 _ rfl
  have d1 := bx3.2 1 _ rfl
  have d2 := bx3.2 2 _ rfl
  have d3 := bx3.2 3 _ rfl
  obtain ⟨W4, hW4⟩ : ∃ W4, W3.alloc (.cells #[.int .i64 s.pOff] 3) = W4 := ⟨_, rfl⟩
  have N4 : Below w.heap.size w W4 := hW4 ▸ N3.alloc N3.size _
  have bx4 : Bx W4 w.heap.size [.int .i64 s.pShort, .int .i64 s.pLong, .int .i64 s.pOn, .int .i64 s.pOff] := hW4 ▸ bx3.alloc _
  have b4 : Bx W4 W3.heap.size [.int .i64 s.pOff] := hW4 ▸ Bx.new W3 [.int .i64 s.pOff] 3
  go_wp2_with fail
  clear hW4 d0 d1 d2 d3
  refine (withinOneQ (10) (s.pOn) s.pOff _ _ _ b4 rfl).mono ?_
  rintro e w9 ⟨rfl, q9⟩
  obtain rfl : W4 = w9 := q9.symm
  clear b4 bx3
  by_cases h4 : 10 ≤ s.pOff ∧ s.pOff ≤ s.pOn
  case neg =>
    have HF : Hid (false = u) := Lib.hid (by rw [← HU.out, goodS_no (s := s) (fun g => h4 g.2.2.2)])
    rw [decide_eq_false h4]
    go_wp2
    go_ret
    exact ⟨ret_bool HF.out, N4⟩
  have HF : Hid (true = u) := Lib.hid (by rw [← HU.out, goodS_mk (s := s) ⟨h1, h2, h3, h4⟩])
  rw [decide_eq_true h4]
  go_wp2
  go_ret
  exact ⟨ret_bool HF.out, N4⟩
theorem implIsSet (s : GSetting) (v : Value) (w : World) (B : Nat) (h : SettingVL w B v s) (hB : B ≤ w.heap.size) (_ : sz1Setting s ≤ 1048576) (hw : wfSetting s) :
    Calls Try.prog 46 #[v] w fun e w' => e = .returned (.bool (goodS s)) ∧ Below w.heap.size w w' := by
  obtain rfl := h.form
  exact implGoodS s _ w rfl hw
/-- A trigger by value, its cells. -/
abbrev celT (ao : Option Addr) (n cap : Nat) (s : GSetting) : List Value := [.slice ao n cap, .int .i64 s.pShort, .int .i64 s.pLong, .int .i64 s.pOn, .int .i64 s.pOff]
abbrev aggT (ao : Option Addr) (n cap : Nat) (s : GSetting) : Value := .agg #[.slice ao n cap, .int .i64 s.pShort, .int .i64 s.pLong, .int .i64 s.pOn, .int .i64 s.pOff]
theorem firstPlaceT (ao : Option Addr) (n cap : Nat) (s : GSetting) (w : World) (h0 : 1 ≤ s.pLong) (h1 : s.pLong ≤ 100) :
    Calls Try.prog 76 #[aggT ao n cap s] w fun e w' => e = .returned (.int .i64 (s.pLong - 1)) ∧ Below w.heap.size w w' := by
  go_enter Try.func76, Try.ntmps76
  go_wp2
  go_ret
  exact ⟨rfl, (Below.refl _ _).alloc (Nat.le_refl _) _⟩
theorem greaterT (a b c d : Int) (u : Bool) (w : World) (h : 0 ≤ a ∧ a ≤ 10000000 ∧ 0 ≤ b ∧ b ≤ 10000000 ∧ 0 ≤ c ∧ c ≤ 10000000 ∧ 0 ≤ d ∧ d ≤ 10000000) (hu : decide (c * b < a * d) = u) :
    Calls Try.prog 78 #[.agg #[.int .i64 a, .int .i64 b], .agg #[.int .i64 c, .int .i64 d]] w fun e w' => e = .returned (.bool u) ∧ Below w.heap.size w w' := by
  obtain ⟨a0, a1, b0, b1, c0, c1, d0, d1⟩ := h
  have m1 := mul_bdQ c0 c1 b0 b1
  have m2 := mul_bdQ a0 a1 d0 d1
  have s1 : wrap64 (c * b) = c * b := by unfold wrap64; omega
  have s2 : wrap64 (a * d) = a * d := by unfold wrap64; omega
  subst hu
  clear m1 m2
  go_enter Try.func78, Try.ntmps78
  go_wp2
  go_ret
  exact ⟨by simp only [s1, s2]; rfl, ((Below.refl _ _).alloc (Nat.le_refl _) _).alloc (by first | omega | (simp; done) | (simp; omega)) _⟩
theorem leastOfT (a b t : Int) (u : Bool) (w : World) (h : 0 ≤ a ∧ a ≤ 10000000 ∧ 0 ≤ b ∧ b ≤ 10000000 ∧ 0 ≤ t ∧ t ≤ 1001) (hu : decide (t * b ≤ 10 * a) = u) :
    Calls Try.prog 82 #[.agg #[.int .i64 a, .int .i64 b], .int .i64 t] w fun e w' => e = .returned (.bool u) ∧ Below w.heap.size w w' := by
  obtain ⟨a0, a1, b0, b1, t0, t1⟩ := h
  have m1 := mul_bdQ t0 t1 b0 b1
  have s1 : wrap64 (t * b) = t * b := by unfold wrap64; omega
  have s2 : wrap64 (10 * a) = 10 * a := by unfold wrap64; omega
  subst hu
  clear m1
  go_enter Try.func82, Try.ntmps82
  go_wp2
  go_ret
  exact ⟨by simp only [s1, s2]; rfl, (Below.refl _ _).alloc (Nat.le_refl _) _⟩
theorem mostOfT (a b t : Int) (u : Bool) (w : World) (h : 0 ≤ a ∧ a ≤ 10000000 ∧ 0 ≤ b ∧ b ≤ 10000000 ∧ 0 ≤ t ∧ t ≤ 1001) (hu : decide (10 * a ≤ t * b) = u) :
    Calls Try.prog 136 #[.agg #[.int .i64 a, .int .i64 b], .int .i64 t] w fun e w' => e = .returned (.bool u) ∧ Below w.heap.size w w' := by
  obtain ⟨a0, a1, b0, b1, t0, t1⟩ := h
  have m1 := mul_bdQ t0 t1 b0 b1
  have s1 : wrap64 (t * b) = t * b := by unfold wrap64; omega
  have s2 : wrap64 (10 * a) = 10 * a := by unfold wrap64; omega
  subst hu
  clear m1
  go_enter Try.func136, Try.ntmps136
  go_wp2
  go_ret
  exact ⟨by simp only [s1, s2]; rfl, (Below.refl _ _).alloc (Nat.le_refl _) _⟩
set_option maxRecDepth 100000 in
set_option maxHeartbeats 1000000 in
/-- A sum without signs. -/
theorem loudnessT (xs : List Int) (ao : Option Addr) (cap : Nat) (s : GSetting) (p : Nat) (n r : Int) (w : World) (B : Nat) (h : Lst (Value.int .i64) w B (.slice ao xs.length cap) xs) (hB : B ≤ w.heap.size) (hx : ∀ x ∈ xs, -100000 ≤ x ∧ x ≤ 100000) (hl : xs.length ≤ 24)
    (h0 : 1 ≤ n) (hn : n ≤ (p : Int) + 1) (hp : p < xs.length) (hr : wA xs n.toNat p = r) :
    Calls Try.prog 119 #[aggT ao xs.length cap s, .int .i64 p, .int .i64 n] w fun e w' => e = .returned (.int .i64 r) ∧ Below w.heap.size w w' := by
  obtain ⟨ao', cap', hv, hcap, hmax, -, hc⟩ := h
  simp only [Value.slice.injEq] at hv
  obtain ⟨rfl, -, rfl⟩ := hv
  unfold maxLen at hmax
  obtain ⟨m, rfl⟩ : ∃ m : Nat, n = (m : Int) := ⟨n.toNat, by omega⟩
  rw [Int.toNat_natCast] at hr
  obtain ⟨x0, hx0⟩ := get_of_lt hp
  obtain ⟨b, off, rfl, hb, -⟩ := hc p x0 hx0
  have HR := Lib.hid hr
  have HX := Lib.hid hx
  obtain ⟨b0, hb0⟩ : ∃ b0, p + 1 - m = b0 := ⟨_, rfl⟩
  have HB0 := Lib.hid hb0
  have hb1 : b0 + m = p + 1 := by omega
  have HB1 := Lib.hid hb1
  have N0 := (Below.refl w.heap.size w).alloc (Nat.le_refl _) (.cells (celT (some ⟨b, off, none⟩) xs.length cap s).toArray 78)
  have HC : Hid (∀ W, Below w.heap.size w W → ∀ k x, k < m → xs[b0 + k]? = some x → W.cell? ⟨b, off + b0 + k, none⟩ = some (.int .i64 x)) := Lib.hid (fun W q k x hk hx => by
    obtain ⟨b', off', e, h1, h2⟩ := hc (b0 + k) x hx
    simp only [Option.some.injEq, Addr.mk.injEq, and_true] at e
    obtain ⟨rfl, rfl⟩ := e
    rw [Nat.add_assoc]
    exact cellOf q (by omega) h2)
  have e1 : IntKind.i64.wrap ((p : Int) - m) = (p : Int) - m := IntWalk.i64_in _ (by omega)
  have e2 : (p : Int) - m + 1 = (b0 : Int) := by omega
  have k1 : (0 : Int) ≤ (b0 : Int) := by omega
  have k2 : (b0 : Int) ≤ (p : Int) + 1 := by omega
  have k3 : (p : Int) + 1 ≤ (cap : Int) := by omega
  have k4 : ¬ cap = ((b0 : Int)).toNat := by omega
  have k5 : (((p : Int) + 1 - (b0 : Int))).toNat = m := by omega
  have k6 : ((b0 : Int)).toNat = b0 := by omega
  have k7 : (p : Int) ≤ 24 := by omega
  have k8 : (m : Int) ≤ 25 := by omega
  clear hr hx hc hx0 hb0 hb1
  go_enter Try.func119, Try.ntmps119
  go_wp2
  go_loopw [7, 9, 20] (fun a x i wr => ∃ k : Nat, k ≤ m ∧ i = .int .i64 k ∧ a = .int .i64 (preA xs (b0 + k) - preA xs b0) ∧ Below w.heap.size w wr) (fun _ _ i _ => m - (intOf i).toNat)
  case atStart => exact ⟨0, Nat.zero_le _, rfl, by rw [Nat.add_zero, Int.sub_self], N0⟩
  case round =>
    obtain ⟨k, hk, rfl, rfl, hbl⟩ := hrel
    clear N0
    have hk0 : (0 : Int) ≤ (k : Int) := by omega
    by_cases hlt : k < m
    · have hk1 : (k : Int) < ((p + 1 - b0 : Nat) : Int) := by omega
      have hk2 : (k : Int) ≤ 25 := by omega
      have hB1' := HB1.out
      obtain ⟨x, hx⟩ := get_of_lt (l := xs) (k := b0 + k) (by omega)
      have hcell := HC.out wr hbl k x hlt hx
      have hxb := HX.out x (List.mem_of_getElem? hx)
      have hs := preA_snoc hx
      have hbd := preA_bd HX.out (a := b0) (b0 + k) (by omega) (by omega)
      have habd := ab_bd hxb
      have HS := Lib.hid hs
      clear hx hs hB1'
      generalize preA xs b0 = P0 at *
      generalize preA xs (b0 + k) = P1 at *
      generalize hab : ab x = y at *
      have CS := Lib.hid (fun W => magAny x y W (by omega) (by omega) hab)
      clear hab
      go_wp2_with fail
      refine (CS.out _).mono ?_
      rintro e w9 ⟨rfl, q9⟩
      obtain rfl : wr = w9 := q9.symm
      go_wp2
      go_roundw
      case rel => exact ⟨k + 1, by omega, by go_num, by rw [← Nat.add_assoc, HS.out]; go_num, hbl⟩
      case measure => simp [intOf]; omega
    · obtain rfl : k = m := by omega
      have HF : Hid (preA xs (b0 + k) - preA xs b0 = r) := Lib.hid (by rw [← HR.out, HB1.out, ← HB0.out]; rfl)
      have hk1 : ¬ (k : Int) < ((p + 1 - b0 : Nat) : Int) := by omega
      generalize preA xs (b0 + k) - preA xs b0 = P0 at *
      go_wp2
      go_ret
      exact ⟨ret_int HF.out, hbl⟩
end Go.Proofs.Ytklilfbokpljkab
