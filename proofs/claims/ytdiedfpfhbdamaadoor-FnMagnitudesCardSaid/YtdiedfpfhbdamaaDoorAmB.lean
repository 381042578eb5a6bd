/- Amplitudes: the specification's bonus, size and magnitude. -/
import Derived.Test.YtdiedfpfhbdamaaDoorAmA
import Derived.Deep.RegionHeld3
import Derived.Deep.CutBlock
import Derived.Deep.CutRange
namespace Go.Proofs.YtdiedfpfhbdamaaDoor
open Go.ChangeShapes Go.WideShapes Go.ChangeAt Go.RowKit Go.ChangeMaps
set_option linter.unusedSimpArgs false
set_option linter.unusedVariables false
set_option linter.unusedSimpArgs false
set_option linter.unusedVariables false

set_option maxRecDepth 100000 in
set_option maxHeartbeats 2000000 in
theorem specBon (xs : List GTableRow) (v : Value) (x r : Int) (w : World) (B : Nat) (h : TableRowL w B v xs) (hB : B ≤ w.heap.size) (hg : okTb xs) (h0 : 0 ≤ x) (h1 : x ≤ 1500) (hr : bonV xs x = r) :
    Calls Tryd.prog 39 #[v, .int .i64 x] w fun e w' => e = .returned (.int .i64 r) ∧ Below w.heap.size w w' := by
  obtain ⟨ao, cap, rfl, hcap, hmax, -, hc⟩ := h
  have hl2 := hg.2.1
  have hl8 := hg.2.2
  obtain ⟨p0, hp0⟩ := get_of_lt (l := xs) (k := 0) (by omega)
  obtain ⟨bb, off, rfl, hbb, hcell0⟩ := hc 0 p0 hp0
  have HG := Lib.hid hg
  have HC := Lib.hid hc
  have HR := Lib.hid hr
  have a0 : w.cell? ⟨bb, off, none⟩ = some (.int .i64 p0.pFar) := by have := hcell0 0 _ rfl; simpa using this
  have a1 : w.cell? ⟨bb, off + 1, none⟩ = some (.int .i64 p0.pBonus) := by have := hcell0 1 _ rfl; simpa using this
  have z0 : 0 < xs.length := by omega
  have HP := Lib.hid hp0
  clear hc hg hr hcell0 hp0
  by_cases hx : x ≤ p0.pFar
  case pos =>
    have HF : Hid (p0.pBonus = r) := Lib.hid (by rw [← HR.out]; exact (bonV_zero HP.out hx).symm)
    go_enter Tryd.func39, Tryd.ntmps39
    go_wp2
    go_ret
    exact ⟨ret_int HF.out, Below.refl _ _⟩
  have HP2 : Hid (∃ p, xs[1 - 1]? = some p ∧ p.pFar < x) := Lib.hid ⟨p0, HP.out, by omega⟩
  go_enter Tryd.func39, Tryd.ntmps39
  go_wp2
  clear a0 a1 hx
  go_loopw [5, 6, 7] (fun i _ _ wr => ∃ k : Nat, (1 ≤ k ∧ k ≤ xs.length) ∧ i = .int .i64 k ∧ Hid (∃ p, xs[k - 1]? = some p ∧ p.pFar < x) ∧ Below w.heap.size w wr) (fun i _ _ _ => xs.length - (intOf i).toNat)
  case atStart => exact ⟨1, ⟨Nat.le_refl _, by omega⟩, rfl, HP2, Below.refl _ _⟩
  case round =>
    obtain ⟨k, ⟨hk1, hk2⟩, rfl, HL, hbl⟩ := hrel
    have hsz := hbl.size
    by_cases hn : k < xs.length
    case neg =>
      obtain rfl : k = xs.length := by omega
      have HF : Hid ((-1 : Int) = r) := Lib.hid (by
        obtain ⟨p, hp, hlt⟩ := HL.out
        rw [← HR.out]; exact (bonV_off HG.out hp hlt).symm)
      go_wp2
      go_ret
      exact ⟨ret_int HF.out, hbl⟩
    obtain ⟨b, hb⟩ := get_of_lt hn
    obtain ⟨a, ha⟩ := get_of_lt (l := xs) (k := k - 1) (by omega)
    have hax : a.pFar < x := by
      obtain ⟨p, hp, hlt⟩ := HL.out
      rw [ha] at hp; cases hp; exact hlt
    have ta := okTb_mem HG.out ha
    have tb := okTb_mem HG.out hb
    have tl := okTb_lt HG.out (show k - 1 < k by omega) ha hb
    obtain ⟨b9, off9, e9, -, hcell⟩ := HC.out k b hb
    simp only [Option.some.injEq, Addr.mk.injEq, and_true] at e9
    obtain ⟨rfl, rfl⟩ := e9
    obtain ⟨b', off', e9, -, hcell2⟩ := HC.out (k - 1) a ha
    simp only [Option.some.injEq, Addr.mk.injEq, and_true] at e9
    obtain ⟨rfl, rfl⟩ := e9
    have c0 : wr.cell? ⟨bb, off + k * 2, none⟩ = some (.int .i64 b.pFar) := cellOf hbl (by omega) (hcell 0 _ rfl)
    have c1 : wr.cell? ⟨bb, off + k * 2 + 1, none⟩ = some (.int .i64 b.pBonus) := cellOf hbl (by omega) (hcell 1 _ rfl)
    have d0 : wr.cell? ⟨bb, off + (k - 1) * 2, none⟩ = some (.int .i64 a.pFar) := cellOf hbl (by omega) (hcell2 0 _ rfl)
    have d1 : wr.cell? ⟨bb, off + (k - 1) * 2 + 1, none⟩ = some (.int .i64 a.pBonus) := cellOf hbl (by omega) (hcell2 1 _ rfl)
    have mp0 : (0 : Int) ≤ (k : Int) := by omega
    have mp1 : (k : Int) < (xs.length : Int) := by omega
    have mp2 : (0 : Int) ≤ (k : Int) - 1 := by omega
    have mp3 : (k : Int) - 1 < (xs.length : Int) := by omega
    have mp4 : ((k : Int) - 1).toNat = k - 1 := by omega
    have mp5 : IntKind.i64.wrap ((k : Int) - 1) = (k : Int) - 1 := IntWalk.i64_in _ (by omega)
    have mp8 : k - 1 < xs.length := by omega
    have mp9 : (k : Int) ≤ (xs.length : Int) := by omega
    have mp6 : (1 : Int) ≤ (k : Int) := by omega
    have mp7 : (k : Int) < (xs.length : Int) + 1 := by omega
    have mp10 : (xs.length : Int) ≤ 8 := by omega
    have HA := Lib.hid ha
    have HB := Lib.hid hb
    have HS0 := Lib.hid (show ∀ w', Below wr.heap.size wr w' → w'.cell? ⟨bb, off + k * 2, none⟩ = some (.int .i64 b.pFar) ∧ w'.cell? ⟨bb, off + k * 2 + 1, none⟩ = some (.int .i64 b.pBonus) ∧ w'.cell? ⟨bb, off + (k - 1) * 2, none⟩ = some (.int .i64 a.pFar) ∧ w'.cell? ⟨bb, off + (k - 1) * 2 + 1, none⟩ = some (.int .i64 a.pBonus) from fun w' q => ⟨cellOf q (cell_of_lt c0) c0, cellOf q (cell_of_lt c1) c1, cellOf q (cell_of_lt d0) d0, cellOf q (cell_of_lt d1) d1⟩)
    clear hcell hcell2 ha hb
    go_upto_region 6 with fail
    go_cut [6, 7] from 18 to 55 (fun s6 s7 wx => ∃ g1 g2 : Nat, s6 = .pointer (some ⟨g1, 0, none⟩) ∧ s7 = .pointer (some ⟨g2, 0, none⟩) ∧ (wx.cell? ⟨g1, 0, none⟩ = some (.int .i64 a.pFar) ∧ wx.cell? ⟨g1, 1, none⟩ = some (.int .i64 a.pBonus)) ∧ (wx.cell? ⟨g2, 0, none⟩ = some (.int .i64 b.pFar) ∧ wx.cell? ⟨g2, 1, none⟩ = some (.int .i64 b.pBonus)) ∧ Below wr.heap.size wr wx)
    case first =>
      have w1a : Bx ((wr.alloc (.cells #[.int .i64 a.pFar, .int .i64 a.pBonus] 55)).alloc (.cells #[.int .i64 b.pFar, .int .i64 b.pBonus] 55)).drew wr.heap.size [.int .i64 a.pFar, .int .i64 a.pBonus] := (Bx.new wr [.int .i64 a.pFar, .int .i64 a.pBonus] 55).alloc _
      have w1b : Bx ((wr.alloc (.cells #[.int .i64 a.pFar, .int .i64 a.pBonus] 55)).alloc (.cells #[.int .i64 b.pFar, .int .i64 b.pBonus] 55)).drew (wr.heap.size + 1) [.int .i64 b.pFar, .int .i64 b.pBonus] := Bx.new1 wr (.cells #[.int .i64 a.pFar, .int .i64 a.pBonus] 55) [.int .i64 b.pFar, .int .i64 b.pBonus] 55
      have w2b : Bx ((wr.alloc (.cells #[.int .i64 b.pFar, .int .i64 b.pBonus] 55)).alloc (.cells #[.int .i64 a.pFar, .int .i64 a.pBonus] 55)).drew wr.heap.size [.int .i64 b.pFar, .int .i64 b.pBonus] := (Bx.new wr [.int .i64 b.pFar, .int .i64 b.pBonus] 55).alloc _
      have w2a : Bx ((wr.alloc (.cells #[.int .i64 b.pFar, .int .i64 b.pBonus] 55)).alloc (.cells #[.int .i64 a.pFar, .int .i64 a.pBonus] 55)).drew (wr.heap.size + 1) [.int .i64 a.pFar, .int .i64 a.pBonus] := Bx.new1 wr (.cells #[.int .i64 b.pFar, .int .i64 b.pBonus] 55) [.int .i64 a.pFar, .int .i64 a.pBonus] 55
      go_region_held3 (fun w' => w'.cell? ⟨bb, off + k * 2, none⟩ = some (.int .i64 b.pFar) ∧ w'.cell? ⟨bb, off + k * 2 + 1, none⟩ = some (.int .i64 b.pBonus) ∧ w'.cell? ⟨bb, off + (k - 1) * 2, none⟩ = some (.int .i64 a.pFar) ∧ w'.cell? ⟨bb, off + (k - 1) * 2 + 1, none⟩ = some (.int .i64 a.pBonus))
        (first
          | (with_reducible refine HS0.out _ ?_
             repeat (first | with_reducible exact Below.refl _ _ | (with_reducible refine Below.drew ?_) | (with_reducible refine Below.alloc ?_ (by first | omega | (simp; done) | (simp; omega)) _) | (with_reducible refine Below.setCell ?_ (by first | omega | (simp; done) | (simp; omega)) _))))
        (fail)
      all_goals
        go_wp2_with fail
        go_meet
        first
          | exact ⟨_, _, rfl, rfl, ⟨w1a.2 0 _ rfl, w1a.2 1 _ rfl⟩, ⟨w1b.2 0 _ rfl, w1b.2 1 _ rfl⟩, (((Below.refl _ _).alloc (Nat.le_refl _) _).alloc (by first | omega | (simp; done) | (simp; omega)) _).drew⟩
          | exact ⟨_, _, rfl, rfl, ⟨w2a.2 0 _ rfl, w2a.2 1 _ rfl⟩, ⟨w2b.2 0 _ rfl, w2b.2 1 _ rfl⟩, (((Below.refl _ _).alloc (Nat.le_refl _) _).alloc (by first | omega | (simp; done) | (simp; omega)) _).drew⟩
    case rest =>
      obtain ⟨g1, g2, rfl, rfl, ⟨f0, f1⟩, ⟨f2, f3⟩, hb9⟩ := hcut
      have hbw := hbl.trans (hb9.mono hsz)
      clear c0 c1 d0 d1 HS0
      by_cases hx : x ≤ b.pFar
      case neg =>
        have HL2 : Hid (∃ p, xs[k + 1 - 1]? = some p ∧ p.pFar < x) := Lib.hid ⟨b, HB.out, by omega⟩
        go_wp2
        go_roundw
        case rel => exact ⟨k + 1, ⟨by omega, by omega⟩, by go_num, HL2, hbw⟩
        case measure => simp [intOf]; omega
      have hres : lineB a b x = r := by
        rw [← HR.out]
        have hb' := HB.out
        rw [show k = k - 1 + 1 by omega] at hb'
        exact (bonV_mid HG.out HA.out hb' hax hx).symm
      have hbd := lineB_bd tl.1 tl.2 (Int.le_of_lt hax) hx
      rw [hres] at hbd
      unfold lineB at hres
      obtain ⟨⟨ta0, ta1⟩, ta2, ta3⟩ := ta
      obtain ⟨⟨tb0, tb1⟩, tb2, tb3⟩ := tb
      obtain ⟨tl0, tl1⟩ := tl
      have hm0 : 0 ≤ (x - a.pFar) * (b.pBonus - a.pBonus) := Int.mul_nonneg (by omega) (by omega)
      have hm1 : (x - a.pFar) * (b.pBonus - a.pBonus) ≤ 1500 * 600 := Int.mul_le_mul (by omega) (by omega) (by omega) (by omega)
      have s1 : IntKind.i64.wrap (x - a.pFar) = x - a.pFar := IntWalk.i64_in _ (by omega)
      have s2 : IntKind.i64.wrap (b.pBonus - a.pBonus) = b.pBonus - a.pBonus := IntWalk.i64_in _ (by omega)
      have s3 : IntKind.i64.wrap ((x - a.pFar) * (b.pBonus - a.pBonus)) = (x - a.pFar) * (b.pBonus - a.pBonus) := IntWalk.i64_in _ (by omega)
      have s4 : IntKind.i64.wrap (b.pFar - a.pFar) = b.pFar - a.pFar := IntWalk.i64_in _ (by omega)
      have hdv : ((x - a.pFar) * (b.pBonus - a.pBonus)).tdiv (b.pFar - a.pFar) = (x - a.pFar) * (b.pBonus - a.pBonus) / (b.pFar - a.pFar) := Int.tdiv_eq_ediv_of_nonneg hm0
      obtain ⟨q, hq⟩ : ∃ q, (x - a.pFar) * (b.pBonus - a.pBonus) / (b.pFar - a.pFar) = q := ⟨_, rfl⟩
      rw [hq] at hdv hres
      have HQ := Lib.hid hq
      have s5 : IntKind.i64.wrap q = q := IntWalk.i64_in _ (by omega)
      have s6 : IntKind.i64.wrap (a.pBonus + q) = a.pBonus + q := IntWalk.i64_in _ (by omega)
      have hd0 : ¬ b.pFar - a.pFar = 0 := by omega
      have hd1 : (b.pFar - a.pFar == 0) = false := by simp; omega
      have HRS := Lib.hid hres
      clear hq hres hm0 hm1 hbd
      go_wp2
      go_quiet (fail)
      go_wp2
      go_ret
      exact ⟨ret_int HRS.out, drewN_b hbw _⟩
set_option maxHeartbeats 1000000 in
theorem specSize (x r : Int) (w : World) (h0 : 1 ≤ x) (h1 : x ≤ 1000000) (hr : sizeV x = r) :
    Calls Tryd.prog 32 #[.int .i64 x] w fun e w' => e = .returned (.int .i64 r) ∧ w' = w := by
  have HR := Lib.hid hr
  clear hr
  go_enter Tryd.func32, Tryd.ntmps32
  go_wp2
  go_loopw [0, 3] (fun a n wr => ∃ y m : Int, a = .int .i64 y ∧ n = .int .i64 m ∧ (1 ≤ y ∧ y ≤ 1000000) ∧ (0 ≤ m ∧ m + sizeV y ≤ 600) ∧ Hid (m + sizeV y = r) ∧ wr = w) (fun a _ _ => (intOf a).toNat)
  case atStart =>
    have := sizeV_bd h0 h1
    exact ⟨x, 0, rfl, rfl, ⟨h0, h1⟩, ⟨Int.le_refl _, by omega⟩, Lib.hid (by rw [← HR.out]; omega), rfl⟩
  case round =>
    obtain ⟨y, m, rfl, rfl, ⟨hy0, hy1⟩, ⟨hm0, hm1⟩, HY, rfl⟩ := hrel
    have hsb := sizeV_bd hy0 hy1
    by_cases hn : 10 ≤ y
    case neg =>
      have e := sizeV_low (w := y) (by omega)
      have HF : Hid (m + 11 * (y - 1) = r) := Lib.hid (by rw [← HY.out, e])
      have hsb1 := hsb.1
      clear e hsb
      go_wp2
      go_ret
      exact ⟨ret_int (by first | exact HF.out | (have := HF.out; simp only [wrap64]; omega)), rfl⟩
    have e := sizeV_step hn hy1
    have hy2 : y.tdiv 10 = y / 10 := Int.tdiv_eq_ediv_of_nonneg (by omega)
    have g1 : 1 ≤ y / 10 := by omega
    have g2 : y / 10 ≤ 100000 := by omega
    have g3 : y / 10 < y := by omega
    have hsb2 := sizeV_bd g1 (by omega)
    have HF : Hid (m + 100 + sizeV (y / 10) = r) := Lib.hid (by rw [← HY.out]; omega)
    have hm2 : m + 100 + sizeV (y / 10) ≤ 600 := by omega
    have hm3 : m ≤ 600 := by omega
    obtain ⟨z, hz⟩ : ∃ z, y / 10 = z := ⟨_, rfl⟩
    rw [hz] at hy2 g1 g2 g3 HF hm2 hsb2
    have s1 : IntKind.i64.wrap z = z := IntWalk.i64_in _ (by omega)
    clear hz e hsb hm1
    go_wp2
    go_roundw
    case rel => exact ⟨z, m + 100, rfl, by go_num, ⟨g1, by omega⟩, ⟨by omega, hm2⟩, HF, by first | rfl | trivial⟩
    case measure => simp [intOf]; omega
set_option maxHeartbeats 1000000 in
theorem specMag (xs : List GTableRow) (v : Value) (s : GSwing) (w : World) (B : Nat) (h : TableRowL w B v xs) (hB : B ≤ w.heap.size) (hg : okTb xs) (hs : okSw s) :
    Calls Tryd.prog 42 #[v, aggW s] w fun e w' => e = .returned (.tuple #[.int .i64 (if hasM xs s then magV xs s else 0), .bool (hasM xs s)]) ∧ Below w.heap.size w w' := by
  obtain ⟨W0, hW0⟩ : ∃ W0, w.alloc (objW s) = W0 := ⟨_, rfl⟩
  have N0 : Below w.heap.size w W0 := hW0 ▸ (Below.refl w.heap.size w).alloc (Nat.le_refl _) _
  have bS : Bx W0 w.heap.size [.int .i64 s.pStation, .int .i64 s.pFar, .int .i64 s.pWidth, .int .i64 s.pTerm] := hW0 ▸ Bx.new w [.int .i64 s.pStation, .int .i64 s.pFar, .int .i64 s.pWidth, .int .i64 s.pTerm] 31
  have z0 := N0.size
  obtain ⟨r, hr⟩ : ∃ r, bonV xs s.pFar = r := ⟨_, rfl⟩
  obtain ⟨z, hz⟩ : ∃ z, sizeV s.pWidth = z := ⟨_, rfl⟩
  have hbd := bonV_bd hg s.pFar
  have hsb := sizeV_bd hs.2.2.1.1 hs.2.2.1.2
  rw [hr] at hbd
  rw [hz] at hsb
  obtain ⟨ht0, ht1⟩ := hs.2.2.2
  have CB := Lib.hid (specBon xs v s.pFar r W0 B (h.below (N0.mono hB)) (Nat.le_trans hB z0) hg hs.2.1.1 hs.2.1.2 hr)
  have CZ := Lib.hid (fun W => specSize s.pWidth z W hs.2.2.1.1 hs.2.2.1.2 hz)
  obtain ⟨ao, cap, rfl⟩ := h.form
  have d0 := bS.2 0 _ rfl
  have d1 := bS.2 1 _ rfl
  have d2 := bS.2 2 _ rfl
  have d3 := bS.2 3 _ rfl
  by_cases hn : 0 ≤ r
  case neg =>
    have hn1 : r < 0 := by omega
    have e1 : hasM xs s = false := by unfold hasM; rw [hr]; exact decide_eq_false hn
    rw [e1]
    clear h hg hs hr hz e1
    go_enter Tryd.func42, Tryd.ntmps42
    go_wp2_with fail
    refine CB.out.mono ?_
    rintro e w1 ⟨rfl, hb⟩
    have N1 := N0.trans (hb.mono z0)
    clear d0 d1 d2 d3 bS hW0 hb N0
    go_wp2
    go_ret2
    exact ⟨rfl, N1⟩
  have hn1 : ¬ r < 0 := by omega
  have e1 : hasM xs s = true := by unfold hasM; rw [hr]; exact decide_eq_true hn
  have e2 : magV xs s = z + r + s.pTerm := by unfold magV; rw [hz, hr]
  rw [e1, e2]
  have s1 : IntKind.i64.wrap (z + r) = z + r := IntWalk.i64_in _ (by omega)
  have s2 : IntKind.i64.wrap (z + r + s.pTerm) = z + r + s.pTerm := IntWalk.i64_in _ (by omega)
  clear h hg hs hr hz e1 e2
  go_enter Tryd.func42, Tryd.ntmps42
  go_wp2_with fail
  refine CB.out.mono ?_
  rintro e w1 ⟨rfl, hb⟩
  have N1 := N0.trans (hb.mono z0)
  have bS1 := bS.below hb
  clear d0 d1 d2 d3 bS hW0 hb N0
  have d0 := bS1.2 0 _ rfl
  have d1 := bS1.2 1 _ rfl
  have d2 := bS1.2 2 _ rfl
  have d3 := bS1.2 3 _ rfl
  go_wp2
  go_quiet ((go_at_call 32; exact Calls.quiet_of_same (CZ.out _)))
  go_wp2
  go_ret2
  exact ⟨rfl, drewN_b N1 _⟩
end Go.Proofs.YtdiedfpfhbdamaaDoor
