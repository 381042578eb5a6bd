/- Tracks: the specification's line. -/
import Derived.Test.YtklilfbokpljkacTkG
import Derived.Deep.RegionHeld3
import Derived.Deep.CutBlock
import Derived.Deep.CutRange
namespace Go.Proofs.Ytklilfbokpljkac
open Go.ChangeShapes Go.WideShapes Go.ChangeAt Go.RowKit Go.ChangeMaps
set_option linter.unusedSimpArgs false
set_option linter.unusedVariables false

set_option maxRecDepth 100000 in
set_option maxHeartbeats 2000000 in
theorem specLine (xs : List GClockMark) (v : Value) (x : Int) (w : World) (B : Nat) (h : ClockMarkL w B v xs) (hB : B ≤ w.heap.size) (hg : okTk xs) (h0 : -3000000 ≤ x) (h1 : x ≤ 3000000) :
    Calls Try.prog 99 #[v, .int .i64 x] w fun e w' => e = .returned (.int .i64 (lineL xs x)) ∧ Below w.heap.size w w' := by
  obtain ⟨ao, cap, rfl, hcap, hmax, -, hc⟩ := h
  have hl2 := hg.1.1
  have hl10 := hg.1.2
  have HG := Lib.hid hg
  have HC := Lib.hid hc
  generalize hres : lineL xs x = res
  have HR := Lib.hid hres
  clear hc hg hres
  go_enter Try.func99, Try.ntmps99
  go_upto_block 0 with fail
  go_cut [5] from 11 to 26 (fun s wx => ∃ (k : Nat) (a b : GClockMark), (1 ≤ k ∧ k < xs.length) ∧ s = .int .i64 k ∧ Hid (xs[k - 1]? = some a ∧ xs[k]? = some b ∧ lineAt a b x = res) ∧ w = wx)
  case first =>
    go_wp2_with fail
    go_loopw [5] (fun i wr => ∃ k : Nat, (1 ≤ k ∧ k < xs.length) ∧ i = .int .i64 k ∧ Hid (lineL (xs.drop (k - 1)) x = res) ∧ w = wr) (fun i _ => xs.length - (intOf i).toNat)
    case atStart => exact ⟨1, ⟨Nat.le_refl _, by omega⟩, rfl, Lib.hid (by simpa using HR.out), rfl⟩
    case round =>
      obtain ⟨k, ⟨hk1, hk2⟩, rfl, HL, hwr⟩ := hrel
      subst hwr
      obtain ⟨a, ha⟩ := get_of_lt (l := xs) (k := k - 1) (by omega)
      obtain ⟨b, hb⟩ := get_of_lt hk2
      obtain ⟨bb, off, rfl, hbb, hcell⟩ := HC.out k b hb
      have c0 : w.cell? ⟨bb, off + k * 2, none⟩ = some (.int .i64 b.pShown) := hcell 0 _ rfl
      have hi0 : (0 : Int) ≤ (k : Int) := by omega
      have hi1 : (k : Int) < (xs.length : Int) := by omega
      have hi2 : (xs.length : Int) ≤ 10 := by omega
      have HA := Lib.hid ha
      have HB := Lib.hid hb
      clear ha hb hcell
      by_cases hn : k + 1 < xs.length
      case neg =>
        have g1 : ¬ (k : Int) + 1 < (xs.length : Int) := by omega
        have HX : Hid (lineAt a b x = res) := Lib.hid (by rw [← HL.out]; exact (lineL_here hk1 HA.out HB.out (Or.inl (by omega))).symm)
        go_wp2
        go_meet
        exact ⟨k, a, b, ⟨hk1, hk2⟩, rfl, Lib.hid ⟨HA.out, HB.out, HX.out⟩, rfl⟩
      have g1 : (k : Int) + 1 < (xs.length : Int) := by omega
      by_cases hs : b.pShown < x
      case neg =>
        have HX : Hid (lineAt a b x = res) := Lib.hid (by rw [← HL.out]; exact (lineL_here hk1 HA.out HB.out (Or.inr hs)).symm)
        go_wp2
        go_meet
        exact ⟨k, a, b, ⟨hk1, hk2⟩, rfl, Lib.hid ⟨HA.out, HB.out, HX.out⟩, rfl⟩
      have HL2 : Hid (lineL (xs.drop k) x = res) := Lib.hid (by rw [← HL.out]; exact (lineL_drop hk1 hn HB.out hs).symm)
      go_wp2
      go_roundw
      case rel => exact ⟨k + 1, ⟨by omega, hn⟩, by go_num, by simpa using HL2, by first | rfl | trivial⟩
      case measure => simp [intOf]; omega
  case rest =>
    obtain ⟨k, a, b, ⟨hk1, hk2⟩, rfl, HX, hw⟩ := hcut
    subst hw
    have ta := okTk_tick HG.out HX.out.1
    have tb := okTk_tick HG.out HX.out.2.1
    have hbf := okTk_next HG.out HX.out.1 HX.out.2.1 hk1
    have hbd := lineAt_bd ta tb hbf h0 h1
    obtain ⟨bb, off, rfl, hbb, hcell⟩ := HC.out k b HX.out.2.1
    obtain ⟨b', off', e9, -, hcell2⟩ := HC.out (k - 1) a HX.out.1
    simp only [Option.some.injEq, Addr.mk.injEq, and_true] at e9
    obtain ⟨rfl, rfl⟩ := e9
    have c0 : w.cell? ⟨bb, off + k * 2, none⟩ = some (.int .i64 b.pShown) := hcell 0 _ rfl
    have c1 : w.cell? ⟨bb, off + k * 2 + 1, none⟩ = some (.int .i64 b.pTrue) := hcell 1 _ rfl
    have d0 : w.cell? ⟨bb, off + (k - 1) * 2, none⟩ = some (.int .i64 a.pShown) := hcell2 0 _ rfl
    have d1 : w.cell? ⟨bb, off + (k - 1) * 2 + 1, none⟩ = some (.int .i64 a.pTrue) := hcell2 1 _ rfl
    have mp0 : (0 : Int) ≤ (k : Int) := by omega
    have mp1 : (k : Int) < (xs.length : Int) := by omega
    have mp2 : (0 : Int) ≤ (k : Int) - 1 := by omega
    have mp3 : (k : Int) - 1 < (xs.length : Int) := by omega
    have mp4 : ((k : Int) - 1).toNat = k - 1 := by omega
    have mp5 : IntKind.i64.wrap ((k : Int) - 1) = (k : Int) - 1 := IntWalk.i64_in _ (by omega)
    have mp6 : (1 : Int) ≤ (k : Int) := by omega
    have mp7 : (k : Int) < (xs.length : Int) + 1 := by omega
    have mp8 : k - 1 < xs.length := by omega
    have mp9 : (k : Int) ≤ (xs.length : Int) := by omega
    have HS0 := Lib.hid (show ∀ w', Below w.heap.size w w' → w'.cell? ⟨bb, off + k * 2, none⟩ = some (.int .i64 b.pShown) ∧ w'.cell? ⟨bb, off + k * 2 + 1, none⟩ = some (.int .i64 b.pTrue) ∧ w'.cell? ⟨bb, off + (k - 1) * 2, none⟩ = some (.int .i64 a.pShown) ∧ w'.cell? ⟨bb, off + (k - 1) * 2 + 1, none⟩ = some (.int .i64 a.pTrue) from fun w' q => ⟨cellOf q (cell_of_lt c0) c0, cellOf q (cell_of_lt c1) c1, cellOf q (cell_of_lt d0) d0, cellOf q (cell_of_lt d1) d1⟩)
    clear hcell hcell2
    go_upto_region 4 with fail
    go_cut [6, 7] from 27 to 35 (fun s6 s7 wx => ∃ g1 g2 : Nat, s6 = .pointer (some ⟨g1, 0, none⟩) ∧ s7 = .pointer (some ⟨g2, 0, none⟩) ∧ (wx.cell? ⟨g1, 0, none⟩ = some (.int .i64 a.pShown) ∧ wx.cell? ⟨g1, 1, none⟩ = some (.int .i64 a.pTrue)) ∧ (wx.cell? ⟨g2, 0, none⟩ = some (.int .i64 b.pShown) ∧ wx.cell? ⟨g2, 1, none⟩ = some (.int .i64 b.pTrue)) ∧ Below w.heap.size w wx)
    case first =>
      have w1a : Bx ((w.alloc (.cells #[.int .i64 a.pShown, .int .i64 a.pTrue] 50)).alloc (.cells #[.int .i64 b.pShown, .int .i64 b.pTrue] 50)).drew w.heap.size [.int .i64 a.pShown, .int .i64 a.pTrue] := (Bx.new w [.int .i64 a.pShown, .int .i64 a.pTrue] 50).alloc _
      have w1b : Bx ((w.alloc (.cells #[.int .i64 a.pShown, .int .i64 a.pTrue] 50)).alloc (.cells #[.int .i64 b.pShown, .int .i64 b.pTrue] 50)).drew (w.heap.size + 1) [.int .i64 b.pShown, .int .i64 b.pTrue] := Bx.new1 w (.cells #[.int .i64 a.pShown, .int .i64 a.pTrue] 50) [.int .i64 b.pShown, .int .i64 b.pTrue] 50
      have w2b : Bx ((w.alloc (.cells #[.int .i64 b.pShown, .int .i64 b.pTrue] 50)).alloc (.cells #[.int .i64 a.pShown, .int .i64 a.pTrue] 50)).drew w.heap.size [.int .i64 b.pShown, .int .i64 b.pTrue] := (Bx.new w [.int .i64 b.pShown, .int .i64 b.pTrue] 50).alloc _
      have w2a : Bx ((w.alloc (.cells #[.int .i64 b.pShown, .int .i64 b.pTrue] 50)).alloc (.cells #[.int .i64 a.pShown, .int .i64 a.pTrue] 50)).drew (w.heap.size + 1) [.int .i64 a.pShown, .int .i64 a.pTrue] := Bx.new1 w (.cells #[.int .i64 b.pShown, .int .i64 b.pTrue] 50) [.int .i64 a.pShown, .int .i64 a.pTrue] 50
      go_region_held3 (fun w' => w'.cell? ⟨bb, off + k * 2, none⟩ = some (.int .i64 b.pShown) ∧ w'.cell? ⟨bb, off + k * 2 + 1, none⟩ = some (.int .i64 b.pTrue) ∧ w'.cell? ⟨bb, off + (k - 1) * 2, none⟩ = some (.int .i64 a.pShown) ∧ w'.cell? ⟨bb, off + (k - 1) * 2 + 1, none⟩ = some (.int .i64 a.pTrue))
        (first
          | (with_reducible refine HS0.out _ ?_
             repeat (first | with_reducible exact Below.refl _ _ | (with_reducible refine Below.drew ?_) | (with_reducible refine Below.alloc ?_ (by first | omega | (simp; done) | (simp; omega)) _) | (with_reducible refine Below.setCell ?_ (by first | omega | (simp; done) | (simp; omega)) _))))
        (fail)
      all_goals
        go_wp2_with fail
        go_meet
        first
          | exact ⟨_, _, rfl, rfl, ⟨w1a.2 0 _ rfl, w1a.2 1 _ rfl⟩, ⟨w1b.2 0 _ rfl, w1b.2 1 _ rfl⟩, (((Below.refl _ _).alloc (Nat.le_refl _) _).alloc (by first | omega | (simp; done) | (simp; omega)) _).drew⟩
          | exact ⟨_, _, rfl, rfl, ⟨w2a.2 0 _ rfl, w2a.2 1 _ rfl⟩, ⟨w2b.2 0 _ rfl, w2b.2 1 _ rfl⟩, (((Below.refl _ _).alloc (Nat.le_refl _) _).alloc (by first | omega | (simp; done) | (simp; omega)) _).drew⟩
    case rest =>
      obtain ⟨g1, g2, rfl, rfl, ⟨f0, f1⟩, ⟨f2, f3⟩, hb9⟩ := hcut
      unfold tickM at ta tb
      unfold befTk at hbf
      have hp1 := hbd.1
      have hpos : 0 < b.pShown - a.pShown := by omega
      have hdd := div_down (a := (x - a.pShown) * (b.pTrue - a.pTrue)) hpos
      have hline : lineAt a b x = a.pTrue + (x - a.pShown) * (b.pTrue - a.pTrue) / (b.pShown - a.pShown) := rfl
      have hres : lineAt a b x = res := HX.out.2.2
      have hlb := hbd.2
      rw [hres] at hline hlb
      have s1 : IntKind.i64.wrap (x - a.pShown) = x - a.pShown := IntWalk.i64_in _ (by omega)
      have s2 : IntKind.i64.wrap (b.pTrue - a.pTrue) = b.pTrue - a.pTrue := IntWalk.i64_in _ (by omega)
      have s3 : IntKind.i64.wrap ((x - a.pShown) * (b.pTrue - a.pTrue)) = (x - a.pShown) * (b.pTrue - a.pTrue) := IntWalk.i64_in _ (by omega)
      have s4 : IntKind.i64.wrap (b.pShown - a.pShown) = b.pShown - a.pShown := IntWalk.i64_in _ (by omega)
      obtain ⟨p, hp⟩ : ∃ p, (x - a.pShown) * (b.pTrue - a.pTrue) = p := ⟨_, rfl⟩
      rw [hp] at hp1 hdd hline
      have s3' : -9223372036854775808 ≤ (x - a.pShown) * (b.pTrue - a.pTrue) ∧ (x - a.pShown) * (b.pTrue - a.pTrue) ≤ 9223372036854775807 := by rw [hp]; omega
      obtain ⟨d, hd⟩ : ∃ d, b.pShown - a.pShown = d := ⟨_, rfl⟩
      rw [hd] at hpos hdd hline s4
      obtain ⟨hta0, hta1⟩ := ta.2
      clear hbd hbf hres ta tb
      have hd0 : ¬ d = 0 := by omega
      have hd1 : (d == 0) = false := by simp; omega
      go_wp2
      go_quiet (fail)
      clear hd
      obtain ⟨q, hq⟩ : ∃ q, p.tdiv d = q := ⟨_, rfl⟩
      obtain ⟨m, hm⟩ : ∃ m, p.tmod d = m := ⟨_, rfl⟩
      rw [hq, hm] at hdd
      have hb10 := drewN_b hb9 nq
      by_cases c1 : p < 0
      · by_cases c2 : m = 0
        · rw [if_neg (by simp [c2])] at hdd
          have s5 : IntKind.i64.wrap q = q := IntWalk.i64_in _ (by omega)
          have s8 := Lib.hid (show a.pTrue + q = res by rw [hdd, ← hline])
          clear hdd hline
          go_wp2
          go_ret
          exact ⟨ret_int (by have := s8.out; rw [this]; simp only [wrap64]; omega), hb10⟩
        · rw [if_pos ⟨c1, c2⟩] at hdd
          have c3 : (m == 0) = false := by simp [c2]
          have s5 : IntKind.i64.wrap q = q := IntWalk.i64_in _ (by omega)
          have s6 : IntKind.i64.wrap (q - 1) = q - 1 := IntWalk.i64_in _ (by omega)
          have s8 := Lib.hid (show a.pTrue + (q - 1) = res by rw [hdd, ← hline])
          clear hdd hline
          go_wp2
          go_ret
          exact ⟨ret_int (by have := s8.out; rw [this]; simp only [wrap64]; omega), hb10⟩
      · rw [if_neg (by simp [c1])] at hdd
        have s5 : IntKind.i64.wrap q = q := IntWalk.i64_in _ (by omega)
        have s8 := Lib.hid (show a.pTrue + q = res by rw [hdd, ← hline])
        clear hdd hline
        go_wp2
        go_ret
        exact ⟨ret_int (by have := s8.out; rw [this]; simp only [wrap64]; omega), hb10⟩
end Go.Proofs.Ytklilfbokpljkac
