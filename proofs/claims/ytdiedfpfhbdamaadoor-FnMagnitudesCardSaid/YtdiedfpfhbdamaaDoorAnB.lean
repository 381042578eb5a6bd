/- Amplitudes: the program's bonus, size and magnitude. -/
import Derived.Test.YtdiedfpfhbdamaaDoorAnA
import Derived.Deep.CutBlock
import Derived.Deep.CutRange
namespace Go.Proofs.YtdiedfpfhbdamaaDoor
open Go.ChangeShapes Go.WideShapes Go.ChangeAt Go.RowKit Go.ChangeMaps Go.Sort
set_option linter.unusedSimpArgs false
set_option linter.unusedVariables false
set_option linter.unusedSimpArgs false
set_option linter.unusedVariables false

theorem div_downW {a b : Int} (hb : 0 < b) : (if a.tmod b < 0 then a.tdiv b - 1 else a.tdiv b) = a / b := by
  have e1 := Int.mul_tdiv_add_tmod a b
  have e2 := Int.mul_ediv_add_emod a b
  have h0 := Int.emod_nonneg a (show b ≠ 0 by omega)
  have h1 := Int.emod_lt_of_pos a hb
  have h2 : (a.tmod b).natAbs < b.natAbs := by rw [Int.natAbs_tmod]; exact Nat.mod_lt _ (by omega)
  split
  · rename_i c
    have : b * (a.tdiv b - 1) + (a.tmod b + b) = a := by rw [Int.mul_sub, Int.mul_one]; omega
    exact ((Int.ediv_emod_unique hb).2 ⟨(Int.add_comm _ _).trans this, by omega, by omega⟩).1.symm
  · rename_i c
    exact ((Int.ediv_emod_unique hb).2 ⟨(Int.add_comm _ _).trans e1, by omega, by omega⟩).1.symm
set_option maxRecDepth 100000 in
set_option maxHeartbeats 1000000 in
theorem implDownW (a b : Int) (w : World) (hb : 0 < b) (h0 : -4000000000000 ≤ a) (h1 : a ≤ 4000000000000) :
    Calls Tryd.prog 36 #[.int .i64 a, .int .i64 b] w fun e w' => e = .returned (.int .i64 (a / b)) ∧ w' = w := by
  have hd0 : ¬ b = 0 := by omega
  have hd1 : (b == 0) = false := by simp; omega
  have hdd := div_downW (a := a) hb
  have hbd := Int.natAbs_tdiv_le_natAbs a b
  obtain ⟨q, hq⟩ : ∃ q, a.tdiv b = q := ⟨_, rfl⟩
  obtain ⟨m, hm⟩ : ∃ m, a.tmod b = m := ⟨_, rfl⟩
  rw [hq] at hbd
  rw [hq, hm] at hdd
  by_cases c : m < 0
  · rw [if_pos c] at hdd
    have s6 : IntKind.i64.wrap (q - 1) = q - 1 := IntWalk.i64_in _ (by omega)
    have s5 : IntKind.i64.wrap q = q := IntWalk.i64_in _ (by omega)
    have HD := Lib.hid hdd
    clear hdd hbd
    go_enter Tryd.func36, Tryd.ntmps36
    go_wp2
    go_ret
    exact ⟨ret_int HD.out, rfl⟩
  · rw [if_neg c] at hdd
    have s5 : IntKind.i64.wrap q = q := IntWalk.i64_in _ (by omega)
    have HD := Lib.hid hdd
    clear hdd hbd
    go_enter Tryd.func36, Tryd.ntmps36
    go_wp2
    go_ret
    exact ⟨ret_int HD.out, rfl⟩
theorem lineB_self (a b : GTableRow) : lineB a b a.pFar = a.pBonus := by unfold lineB; rw [Int.sub_self, Int.zero_mul, Int.zero_ediv, Int.add_zero]
set_option maxRecDepth 100000 in
set_option maxHeartbeats 2000000 in
theorem implBn (xs : List GTableRow) (v : Value) (x : Int) (w : World) (B : Nat) (h : TableRowL w B v xs) (hB : B ≤ w.heap.size) (hn : szsTableRow xs ≤ 1048576) (hw : ∀ s ∈ xs, wfTableRow s) (_ : I64 x) :
    Calls Tryd.prog 14 #[v, .int .i64 x] w fun e w' => e = .returned (.tuple #[.int .i64 (numBn xs x), .bool (okBn xs x)]) ∧ Below w.heap.size w w' := by
  have CT := Lib.hid (fun u hu => implGoodT xs v u w B h hB (Nat.le_trans (szsTableRow_len xs) hn) hu)
  have CF := Lib.hid (fun u W hu => implFar x u W hu)
  cases h1 : goodTb xs with
  | false =>
    have C1 := Lib.hid (CT.out false h1)
    have ek := bn_eq xs x _ _ h1 rfl
    rw [Bool.false_and] at ek
    have HF := Lib.hid (retN (numBn_no ek).symm ek.symm)
    obtain ⟨ao, cap, rfl⟩ := h.form
    clear h ek h1
    go_enter Tryd.func14, Tryd.ntmps14
    go_wp2_with fail
    refine C1.out.mono ?_
    rintro e w1 ⟨rfl, hb⟩
    go_wp2
    go_ret2
    exact ⟨HF.out, hb⟩
  | true =>
  have C1 := Lib.hid (CT.out true h1)
  cases h2 : inB x 0 1500 with
  | false =>
    have C2 := Lib.hid (fun W => CF.out false W h2)
    have ek := bn_eq xs x _ _ h1 h2
    rw [Bool.false_and, Bool.and_false] at ek
    have HF := Lib.hid (retN (numBn_no ek).symm ek.symm)
    obtain ⟨ao, cap, rfl⟩ := h.form
    clear h ek h1 h2
    go_enter Tryd.func14, Tryd.ntmps14
    go_wp2_with fail
    refine C1.out.mono ?_
    rintro e w1 ⟨rfl, hb⟩
    go_wp2_with fail
    refine (C2.out _).mono ?_
    rintro e w2 ⟨rfl, hb2⟩
    go_wp2
    go_ret2
    exact ⟨HF.out, hb.trans (hb2.mono hb.size)⟩
  | true =>
  have C2 := Lib.hid (fun W => CF.out true W h2)
  have ek := bn_eq xs x _ _ h1 h2
  rw [Bool.true_and, Bool.true_and] at ek
  have HE : Hid (∀ r, bonV xs x = r → Ending.returned (.tuple #[.int .i64 (if 0 ≤ r then r else 0), .bool (decide (0 ≤ r))]) = .returned (.tuple #[.int .i64 (numBn xs x), .bool (okBn xs x)])) := Lib.hid (fun r hr => by
    rw [hr] at ek
    by_cases q : 0 ≤ r
    · rw [if_pos q, decide_eq_true q]
      rw [decide_eq_true q] at ek
      exact retN (by rw [numBn_yes ek, hr]) ek.symm
    · rw [if_neg q, decide_eq_false q]
      rw [decide_eq_false q] at ek
      exact retN (numBn_no ek).symm ek.symm)
  have hg := goodTb_yes h1
  have hx := inB_iff.1 h2
  obtain ⟨hx0, hx1⟩ := hx
  obtain ⟨ao, cap, rfl, hcap, hmax, -, hc⟩ := h
  unfold maxLen at hmax
  have hl2 := hg.2.1
  have hl8 := hg.2.2
  obtain ⟨p0, hp0⟩ := get_of_lt (l := xs) (k := 0) (by omega)
  obtain ⟨bb, off, rfl, hbb, hcell0⟩ := hc 0 p0 hp0
  have HG := Lib.hid hg
  have HC := Lib.hid hc
  have a0 : w.cell? ⟨bb, off, none⟩ = some (.int .i64 p0.pFar) := by have := hcell0 0 _ rfl; simpa using this
  have a1 : w.cell? ⟨bb, off + 1, none⟩ = some (.int .i64 p0.pBonus) := by have := hcell0 1 _ rfl; simpa using this
  have z0 : 0 < xs.length := by omega
  have HP := Lib.hid hp0
  have hp0b := (okTb_mem hg hp0).2.1
  clear hc hg hcell0 hp0 ek h1 h2 CT CF
  go_enter Tryd.func14, Tryd.ntmps14
  go_wp2_with fail
  refine C1.out.mono ?_
  rintro e w1 ⟨rfl, hb⟩
  go_wp2_with fail
  refine (C2.out _).mono ?_
  rintro e w2 ⟨rfl, hb2⟩
  have N2 := hb.trans (hb2.mono hb.size)
  clear hb hb2 C1 C2
  have b0 := cellOf N2 (cell_of_lt a0) a0
  have b1 := cellOf N2 (cell_of_lt a1) a1
  clear a0 a1
  by_cases hlt0 : x < p0.pFar
  case pos =>
    have HF := Lib.hid (HE.out p0.pBonus (bonV_zero HP.out (by omega)))
    rw [if_pos hp0b, decide_eq_true hp0b] at HF
    go_wp2
    go_ret2
    exact ⟨HF.out, N2⟩
  have hcm1 : ¬ cap = 1 := by omega
  have hcm2 : (1 : Int) ≤ (xs.length : Int) := by omega
  have hcm3 : (xs.length : Int) ≤ (cap : Int) := by omega
  have hcm4 : 1 ≤ xs.length := by omega
  have hcm5 : (1 : Int) ≤ (cap : Int) := by omega
  have HP2 : Hid (∃ p, xs[0]? = some p ∧ (p.pFar < x ∨ (0 = 0 ∧ p.pFar = x))) := Lib.hid ⟨p0, HP.out, by omega⟩
  go_wp2
  clear b0 b1 hlt0
  obtain ⟨wo, hwo⟩ : ∃ wo : World, wo = w2 := ⟨_, rfl⟩
  have hN := xs.length - 1
  go_loopw [6, 7, 8, 30] (fun _ _ _ i wr => ∃ k : Nat, k + 1 ≤ xs.length ∧ i = .int .i64 k ∧ Hid (∃ p, xs[k]? = some p ∧ (p.pFar < x ∨ (k = 0 ∧ p.pFar = x))) ∧ Below w.heap.size w wr) (fun _ _ _ i _ => xs.length - (intOf i).toNat)
  case atStart => exact ⟨0, by omega, rfl, Lib.hid (by obtain ⟨p, hp, h9⟩ := HP2.out; exact ⟨p, hp, h9.imp id (fun g => ⟨rfl, g.2⟩)⟩), N2⟩
  case round =>
    obtain ⟨k, hk, rfl, HL, hbl⟩ := hrel
    have hsz := hbl.size
    have hj1 : ((xs.length - 1 : Nat) : Int) = (xs.length : Int) - 1 := by omega
    by_cases hn : k + 1 < xs.length
    case neg =>
      have HF : Hid (Ending.returned (.tuple #[.int .i64 0, .bool false]) = .returned (.tuple #[.int .i64 (numBn xs x), .bool (okBn xs x)])) := Lib.hid (by
        obtain ⟨p, hp, hlt⟩ := HL.out
        have hk9 : k = xs.length - 1 := by omega
        have h9 := HE.out (-1) (bonV_off HG.out (by rw [← hk9]; exact hp) (by omega))
        rwa [if_neg (by omega), decide_eq_false (by omega)] at h9)
      have g1 : ¬ (k : Int) < ((xs.length - 1 : Nat) : Int) := by omega
      have g2 : ¬ (k : Int) < (xs.length : Int) - 1 := by omega
      clear hj1
      go_wp2
      go_ret2
      exact ⟨HF.out, hbl⟩
    obtain ⟨b, hb⟩ := get_of_lt hn
    obtain ⟨a, ha⟩ := get_of_lt (l := xs) (k := k) (by omega)
    have hax : a.pFar < x ∨ (k = 0 ∧ a.pFar = x) := by
      obtain ⟨p, hp, hlt⟩ := HL.out
      rw [ha] at hp; cases hp; exact hlt
    have ta := okTb_mem HG.out ha
    have tb := okTb_mem HG.out hb
    have tl := okTb_lt HG.out (show k < k + 1 by omega) ha hb
    obtain ⟨b9, off9, e9, -, hcell⟩ := HC.out (k + 1) b hb
    simp only [Option.some.injEq, Addr.mk.injEq, and_true] at e9
    obtain ⟨rfl, rfl⟩ := e9
    obtain ⟨b', off', e9, -, hcell2⟩ := HC.out k a ha
    simp only [Option.some.injEq, Addr.mk.injEq, and_true] at e9
    obtain ⟨rfl, rfl⟩ := e9
    have c0 : wr.cell? ⟨bb, off + 2 + k * 2, none⟩ = some (.int .i64 b.pFar) := by
      have := cellOf hbl (by omega) (hcell 0 _ rfl)
      rwa [show off + (k + 1) * 2 + 0 = off + 2 + k * 2 by omega] at this
    have c1 : wr.cell? ⟨bb, off + 2 + k * 2 + 1, none⟩ = some (.int .i64 b.pBonus) := by
      have := cellOf hbl (by omega) (hcell 1 _ rfl)
      rwa [show off + (k + 1) * 2 + 1 = off + 2 + k * 2 + 1 by omega] at this
    have d0 : wr.cell? ⟨bb, off + k * 2, none⟩ = some (.int .i64 a.pFar) := cellOf hbl (by omega) (hcell2 0 _ rfl)
    have d1 : wr.cell? ⟨bb, off + k * 2 + 1, none⟩ = some (.int .i64 a.pBonus) := cellOf hbl (by omega) (hcell2 1 _ rfl)
    have mp0 : (0 : Int) ≤ (k : Int) := by omega
    have mp1 : (k : Int) < (xs.length : Int) := by omega
    have mp2 : (k : Int) < ((xs.length - 1 : Nat) : Int) := by omega
    have mp3 : k < xs.length - 1 := by omega
    have mp4 : (k : Int) < (xs.length : Int) - 1 := by omega
    have mp9 : (k : Int) ≤ 8 := by omega
    have HA := Lib.hid ha
    have HB := Lib.hid hb
    obtain ⟨W1, hW1⟩ : ∃ W1, wr.alloc (.cells #[.int .i64 b.pFar, .int .i64 b.pBonus] 55) = W1 := ⟨_, rfl⟩
    have A1 : Below wr.heap.size wr W1 := hW1 ▸ (Below.refl _ _).alloc (Nat.le_refl _) _
    have bx : Bx W1 wr.heap.size [.int .i64 b.pFar, .int .i64 b.pBonus] := hW1 ▸ Bx.new wr [.int .i64 b.pFar, .int .i64 b.pBonus] 55
    have N1 := hbl.trans (A1.mono hsz)
    have f0 := bx.2 0 _ rfl
    have f1 := bx.2 1 _ rfl
    have d0' := cellOf A1 (cell_of_lt d0) d0
    have d1' := cellOf A1 (cell_of_lt d1) d1
    clear hcell hcell2 ha hb hj1
    by_cases hx : x ≤ b.pFar
    case neg =>
      have HL2 : Hid (∃ p, xs[k + 1]? = some p ∧ (p.pFar < x ∨ (k + 1 = 0 ∧ p.pFar = x))) := Lib.hid ⟨b, HB.out, by omega⟩
      go_wp2_with fail
      clear hW1
      go_roundw
      case rel => exact ⟨k + 1, by omega, by go_num, HL2, N1⟩
      case measure => simp [intOf]; omega
    have hres : bonV xs x = lineB a b x := by
      rcases hax with q | ⟨q0, q⟩
      · exact bonV_mid HG.out HA.out HB.out q hx
      · subst q0
        subst q
        rw [lineB_self]
        exact bonV_zero HA.out (Int.le_refl _)
    have hax' : a.pFar ≤ x := by omega
    have hbd := lineB_bd tl.1 tl.2 hax' hx
    have HF0 := HE.out _ hres
    unfold lineB at HF0 hbd
    obtain ⟨⟨ta0, ta1⟩, ta2, ta3⟩ := ta
    obtain ⟨⟨tb0, tb1⟩, tb2, tb3⟩ := tb
    obtain ⟨tl0, tl1⟩ := tl
    have hm0 : 0 ≤ (x - a.pFar) * (b.pBonus - a.pBonus) := Int.mul_nonneg (by omega) (by omega)
    have hm1 : (x - a.pFar) * (b.pBonus - a.pBonus) ≤ 1500 * 600 := Int.mul_le_mul (by omega) (by omega) (by omega) (by omega)
    have s1 : IntKind.i64.wrap (x - a.pFar) = x - a.pFar := IntWalk.i64_in _ (by omega)
    have s2 : IntKind.i64.wrap (b.pBonus - a.pBonus) = b.pBonus - a.pBonus := IntWalk.i64_in _ (by omega)
    obtain ⟨P, hP⟩ : ∃ P, (x - a.pFar) * (b.pBonus - a.pBonus) = P := ⟨_, rfl⟩
    have s3 : IntKind.i64.wrap ((x - a.pFar) * (b.pBonus - a.pBonus)) = P := by rw [hP]; rw [hP] at hm0 hm1; exact IntWalk.i64_in _ (by omega)
    have s4 : IntKind.i64.wrap (b.pFar - a.pFar) = b.pFar - a.pFar := IntWalk.i64_in _ (by omega)
    rw [hP] at hm0 hm1 HF0 hbd
    obtain ⟨q, hq⟩ : ∃ q, P / (b.pFar - a.pFar) = q := ⟨_, rfl⟩
    rw [hq] at HF0 hbd
    have CD := Lib.hid (fun W => implDownW P (b.pFar - a.pFar) W (by omega) (by omega) (by omega))
    rw [hq] at CD
    rw [if_pos (by omega), decide_eq_true (by omega)] at HF0
    have s6 : IntKind.i64.wrap (a.pBonus + q) = a.pBonus + q := IntWalk.i64_in _ (by omega)
    have HF := Lib.hid HF0
    obtain ⟨W2, hW2⟩ : ∃ W2, W1.alloc (.cells #[.int .i64 a.pFar, .int .i64 a.pBonus] 55) = W2 := ⟨_, rfl⟩
    have bx2 : Bx W2 wr.heap.size [.int .i64 b.pFar, .int .i64 b.pBonus] := hW2 ▸ bx.alloc _
    have bx3 : Bx W2 W1.heap.size [.int .i64 a.pFar, .int .i64 a.pBonus] := hW2 ▸ Bx.new W1 [.int .i64 a.pFar, .int .i64 a.pBonus] 55
    have N3 : Below w.heap.size w W2 := hW2 ▸ N1.alloc N1.size _
    have g0 := bx2.2 0 _ rfl
    have g1 := bx2.2 1 _ rfl
    have g2 := bx3.2 0 _ rfl
    have g3 := bx3.2 1 _ rfl
    clear HF0 hP hq hm0 hm1 hbd hres hax bx bx2 bx3
    go_wp2
    go_quiet ((go_at_call 36; exact Calls.quiet_of_same (CD.out _)))
    go_wp2
    go_ret2
    exact ⟨HF.out, drewN_b N3 _⟩
set_option maxHeartbeats 1000000 in
theorem implSize (x r : Int) (w : World) (h0 : 1 ≤ x) (h1 : x ≤ 1000000) (hr : sizeV x = r) :
    Calls Tryd.prog 29 #[.int .i64 x] w fun e w' => e = .returned (.int .i64 r) ∧ w' = w := by
  have HR := Lib.hid hr
  clear hr
  go_enter Tryd.func29, Tryd.ntmps29
  go_wp2
  go_loopw [3, 4] (fun n a wr => ∃ y m : Int, a = .int .i64 y ∧ n = .int .i64 m ∧ (1 ≤ y ∧ y ≤ 1000000) ∧ (0 ≤ m ∧ m + sizeV y ≤ 600) ∧ Hid (m + sizeV y = r) ∧ wr = w) (fun _ a _ => (intOf a).toNat)
  case atStart =>
    have := sizeV_bd h0 h1
    exact ⟨x, 0, rfl, rfl, ⟨h0, h1⟩, ⟨Int.le_refl _, by omega⟩, Lib.hid (by rw [← HR.out]; omega), rfl⟩
  case round =>
    obtain ⟨y, m, rfl, rfl, ⟨hy0, hy1⟩, ⟨hm0, hm1⟩, HY, rfl⟩ := hrel
    have hsb := sizeV_bd hy0 hy1
    by_cases hn : 10 ≤ y
    case neg =>
      have e := sizeV_low (w := y) (by omega)
      have HF : Hid (m + 11 * (y - 1) = r) := Lib.hid (by rw [← HY.out, e])
      have hsb1 := hsb.1
      clear e hsb
      go_wp2
      go_ret
      exact ⟨ret_int (by first | exact HF.out | (have := HF.out; simp only [wrap64]; omega)), rfl⟩
    have e := sizeV_step hn hy1
    have hy2 : y.tdiv 10 = y / 10 := Int.tdiv_eq_ediv_of_nonneg (by omega)
    have g1 : 1 ≤ y / 10 := by omega
    have g2 : y / 10 ≤ 100000 := by omega
    have g3 : y / 10 < y := by omega
    have hsb2 := sizeV_bd g1 (by omega)
    have HF : Hid (m + 100 + sizeV (y / 10) = r) := Lib.hid (by rw [← HY.out]; omega)
    have hm2 : m + 100 + sizeV (y / 10) ≤ 600 := by omega
    have hm3 : m ≤ 600 := by omega
    obtain ⟨z, hz⟩ : ∃ z, y / 10 = z := ⟨_, rfl⟩
    rw [hz] at hy2 g1 g2 g3 HF hm2 hsb2
    have s1 : IntKind.i64.wrap z = z := IntWalk.i64_in _ (by omega)
    clear hz e hsb hm1
    go_wp2
    go_roundw
    case rel => exact ⟨z, m + 100, rfl, by go_num, ⟨g1, by omega⟩, ⟨by omega, hm2⟩, HF, by first | rfl | trivial⟩
    case measure => simp [intOf]; omega
theorem implSz (x : Int) (w : World) (B : Nat) (_ : B ≤ w.heap.size) (_ : I64 x) :
    Calls Tryd.prog 11 #[.int .i64 x] w fun e w' => e = .returned (.tuple #[.int .i64 (numSz x), .bool (okSz x)]) ∧ Below w.heap.size w w' := by
  cases hk : inB x 1 1000000 with
  | false =>
    have HF := Lib.hid (retN (numSz_no (w := x) hk).symm (show false = okSz x from hk.symm))
    have C := Lib.hid (implWid x false w hk)
    clear hk
    go_enter Tryd.func11, Tryd.ntmps11
    go_wp2_with fail
    refine C.out.mono ?_
    rintro e w1 ⟨rfl, hb⟩
    go_wp2
    go_ret2
    exact ⟨HF.out, hb⟩
  | true =>
    have hx := inB_iff.1 hk
    have HF := Lib.hid (retN (numSz_yes (w := x) hk).symm (show true = okSz x from hk.symm))
    have C := Lib.hid (implWid x true w hk)
    have C2 := Lib.hid (fun W => implSize x _ W hx.1 hx.2 rfl)
    generalize sizeV x = z at *
    clear hk
    go_enter Tryd.func11, Tryd.ntmps11
    go_wp2_with fail
    refine C.out.mono ?_
    rintro e w1 ⟨rfl, hb⟩
    go_wp2_with fail
    refine (C2.out _).mono ?_
    rintro e w2 ⟨rfl, rfl⟩
    go_wp2
    go_ret2
    exact ⟨HF.out, hb⟩
theorem mg_eq2 (t : List GTableRow) (s : GSwing) (hw : okSw s ∨ oneSw s = false) : okMg t s = (okBn t s.pFar && oneSw s) := by
  unfold okMg okBn hasM
  rcases hw with h | h
  · have : inB s.pFar 0 1500 = true := inB_yes h.2.1
    rw [this, Bool.true_and, Bool.and_assoc, Bool.and_comm (decide _)]
  · rw [h]; simp
set_option maxHeartbeats 1000000 in
theorem implMg (xs : List GTableRow) (v : Value) (s : GSwing) (v2 : Value) (w : World) (B : Nat) (h : TableRowL w B v xs) (h2 : SwingVL w B v2 s) (hB : B ≤ w.heap.size) (hn : szsTableRow xs ≤ 1048576) (_ : sz1Swing s ≤ 1048576) (hw : ∀ s ∈ xs, wfTableRow s) (hw2 : wfSwing s) :
    Calls Tryd.prog 9 #[v, v2] w fun e w' => e = .returned (.tuple #[.int .i64 (numMg xs s), .bool (okMg xs s)]) ∧ Below w.heap.size w w' := by
  obtain rfl := h2.form
  clear h2
  obtain ⟨W0, hW0⟩ : ∃ W0, w.alloc (objW s) = W0 := ⟨_, rfl⟩
  have N0 : Below w.heap.size w W0 := hW0 ▸ (Below.refl w.heap.size w).alloc (Nat.le_refl _) _
  have bS : Bx W0 w.heap.size [.int .i64 s.pStation, .int .i64 s.pFar, .int .i64 s.pWidth, .int .i64 s.pTerm] := hW0 ▸ Bx.new w [.int .i64 s.pStation, .int .i64 s.pFar, .int .i64 s.pWidth, .int .i64 s.pTerm] 31
  have z0 := N0.size
  have CB := Lib.hid (implBn xs v s.pFar W0 B (h.below (N0.mono hB)) (Nat.le_trans hB z0) hn hw hw2.2.1)
  have CS := Lib.hid (fun u W hu => implSw s u W hu)
  have ek := mg_eq2 xs s (by cases e : oneSw s with | false => exact Or.inr rfl | true => exact Or.inl (oneSw_yes e))
  obtain ⟨ao, cap, rfl⟩ := h.form
  have d0 := bS.2 0 _ rfl
  have d1 := bS.2 1 _ rfl
  have d2 := bS.2 2 _ rfl
  have d3 := bS.2 3 _ rfl
  cases h1 : okBn xs s.pFar with
  | false =>
    rw [h1] at CB ek
    rw [Bool.false_and] at ek
    have HF := Lib.hid (retN (numMg_no ek).symm ek.symm)
    generalize numBn xs s.pFar = nb at *
    clear h ek h1
    go_enter Tryd.func9, Tryd.ntmps9
    go_wp2_with fail
    clear hW0 d0 d1 d2 d3
    refine CB.out.mono ?_
    rintro e w1 ⟨rfl, hb⟩
    go_wp2
    go_ret2
    exact ⟨HF.out, N0.trans (hb.mono z0)⟩
  | true =>
  obtain ⟨hok, hf, hb0⟩ := okBn_yes h1
  have hb1 := (bonV_bd hok s.pFar).2
  rw [h1, numBn_yes h1] at CB
  rw [h1, Bool.true_and] at ek
  cases h2 : oneSw s with
  | false =>
    have C2 := Lib.hid (fun W => CS.out false W h2)
    rw [h2] at ek
    have HF := Lib.hid (retN (numMg_no ek).symm ek.symm)
    generalize bonV xs s.pFar = nb at *
    clear h ek h1 h2
    go_enter Tryd.func9, Tryd.ntmps9
    go_wp2_with fail
    clear hW0 d0 d1 d2 d3
    refine CB.out.mono ?_
    rintro e w1 ⟨rfl, hb⟩
    have N1 := N0.trans (hb.mono z0)
    have bS1 := bS.below hb
    have d0 := bS1.2 0 _ rfl
    have d1 := bS1.2 1 _ rfl
    have d2 := bS1.2 2 _ rfl
    have d3 := bS1.2 3 _ rfl
    go_wp2_with fail
    refine (C2.out _).mono ?_
    rintro e w2 ⟨rfl, hb2⟩
    clear d0 d1 d2 d3
    go_wp2
    go_ret2
    exact ⟨HF.out, N1.trans (hb2.mono N1.size)⟩
  | true =>
  have C2 := Lib.hid (fun W => CS.out true W h2)
  have hs := oneSw_yes h2
  rw [h2] at ek
  have hsb := sizeV_bd hs.2.2.1.1 hs.2.2.1.2
  obtain ⟨ht0, ht1⟩ := hs.2.2.2
  have CZ := Lib.hid (fun W => implSize s.pWidth _ W hs.2.2.1.1 hs.2.2.1.2 rfl)
  have HF : Hid (Ending.returned (.tuple #[.int .i64 (sizeV s.pWidth + bonV xs s.pFar + s.pTerm), .bool true]) = .returned (.tuple #[.int .i64 (numMg xs s), .bool (okMg xs s)])) := Lib.hid (retN (numMg_yes ek).symm ek.symm)
  generalize bonV xs s.pFar = r at *
  generalize sizeV s.pWidth = z at *
  have s1 : IntKind.i64.wrap (z + r) = z + r := IntWalk.i64_in _ (by omega)
  have s2 : IntKind.i64.wrap (z + r + s.pTerm) = z + r + s.pTerm := IntWalk.i64_in _ (by omega)
  clear h ek h1 h2 hs
  go_enter Tryd.func9, Tryd.ntmps9
  go_wp2_with fail
  clear hW0 d0 d1 d2 d3
  refine CB.out.mono ?_
  rintro e w1 ⟨rfl, hb⟩
  have N1 := N0.trans (hb.mono z0)
  have bS1 := bS.below hb
  have d0 := bS1.2 0 _ rfl
  have d1 := bS1.2 1 _ rfl
  have d2 := bS1.2 2 _ rfl
  have d3 := bS1.2 3 _ rfl
  go_wp2_with fail
  refine (C2.out _).mono ?_
  rintro e w2 ⟨rfl, hb2⟩
  have N2 := N1.trans (hb2.mono N1.size)
  have bS2 := bS1.below hb2
  clear d0 d1 d2 d3 bS1 N1
  have d0 := bS2.2 0 _ rfl
  have d1 := bS2.2 1 _ rfl
  have d2 := bS2.2 2 _ rfl
  have d3 := bS2.2 3 _ rfl
  go_wp2
  go_quiet ((go_at_call 29; exact Calls.quiet_of_same (CZ.out _)))
  go_wp2
  go_ret2
  exact ⟨HF.out, drewN_b N2 _⟩
end Go.Proofs.YtdiedfpfhbdamaaDoor
