/- Tracks: the program's division and its line; TrueTick. -/
import Derived.Test.YtklilfbokpljkacTkI
import Derived.Test.YtklilfbokpljkacGrew
import Derived.Test.YtklilfbokpljkacQTail
import Derived.Deep.RegionHeld3
import Derived.Deep.CutBlock
import Derived.Deep.CutRange
namespace Go.Proofs.Ytklilfbokpljkac
open Go.ChangeShapes Go.WideShapes Go.ChangeAt Go.RowKit Go.ChangeMaps
set_option linter.unusedSimpArgs false
set_option linter.unusedVariables false
set_option linter.unusedSimpArgs false
set_option linter.unusedVariables false

theorem div_down2 {a b : Int} (hb : 0 < b) : (if a.tmod b < 0 then a.tdiv b - 1 else a.tdiv b) = a / b := by
  rw [← div_down hb]
  have h1 : a.tmod b < 0 ↔ (a < 0 ∧ a.tmod b ≠ 0) := by
    constructor
    · intro h
      refine ⟨?_, by omega⟩
      by_cases h0 : a < 0
      · exact h0
      · have := Int.tmod_nonneg b (show 0 ≤ a by omega); omega
    · rintro ⟨h0, h⟩
      have : 0 ≤ (-a).tmod b := Int.tmod_nonneg b (by omega)
      rw [Int.neg_tmod] at this
      omega
  by_cases h : a.tmod b < 0
  · rw [if_pos h, if_pos (h1.1 h)]
  · rw [if_neg h, if_neg (fun q => h (h1.2 q))]
theorem tdiv_bd {a b : Int} (hb : 0 < b) (h0 : -4000000000000 ≤ a) (h1 : a ≤ 4000000000000) : -4000000000000 ≤ a.tdiv b ∧ a.tdiv b ≤ 4000000000000 := by
  have h := Int.natAbs_tdiv_le_natAbs a b
  omega
set_option maxRecDepth 100000 in
set_option maxHeartbeats 1000000 in
theorem implDown (a b : Int) (w : World) (hb : 0 < b) (h0 : -4000000000000 ≤ a) (h1 : a ≤ 4000000000000) :
    Calls Try.prog 123 #[.int .i64 a, .int .i64 b] w fun e w' => e = .returned (.int .i64 (a / b)) ∧ w' = w := by
  have hd0 : ¬ b = 0 := by omega
  have hd1 : (b == 0) = false := by simp; omega
  have hdd := div_down2 (a := a) hb
  have hbd := tdiv_bd hb h0 h1
  obtain ⟨q, hq⟩ : ∃ q, a.tdiv b = q := ⟨_, rfl⟩
  obtain ⟨m, hm⟩ : ∃ m, a.tmod b = m := ⟨_, rfl⟩
  rw [hq] at hbd
  rw [hq, hm] at hdd
  by_cases c : m < 0
  · rw [if_pos c] at hdd
    have s6 : IntKind.i64.wrap (q - 1) = q - 1 := IntWalk.i64_in _ (by omega)
    have s5 : IntKind.i64.wrap q = q := IntWalk.i64_in _ (by omega)
    have HD := Lib.hid hdd
    clear hdd
    go_enter Try.func123, Try.ntmps123
    go_wp2
    go_ret
    exact ⟨ret_int HD.out, rfl⟩
  · rw [if_neg c] at hdd
    have s5 : IntKind.i64.wrap q = q := IntWalk.i64_in _ (by omega)
    have HD := Lib.hid hdd
    clear hdd
    go_enter Try.func123, Try.ntmps123
    go_wp2
    go_ret
    exact ⟨ret_int HD.out, rfl⟩
theorem lineL_go {xs : List GClockMark} {f : Nat} {x : Int} {b : GClockMark} (hp : xs.Pairwise befTk) (hl : f + 2 < xs.length) (hb : xs[f + 1]? = some b) (h : b.pShown ≤ x) : lineL (xs.drop f) x = lineL (xs.drop (f + 1)) x := by
  by_cases hx : b.pShown < x
  · exact lineL_drop (k := f + 1) (by omega) (by omega) hb hx
  · obtain rfl : b.pShown = x := by omega
    have p1 : (xs.drop f).Pairwise befTk := hp.sublist (List.drop_sublist _ _)
    have p2 : (xs.drop (f + 1)).Pairwise befTk := hp.sublist (List.drop_sublist _ _)
    have e3 : (xs.drop (f + 1))[0]? = some b := by rw [List.getElem?_drop]; exact hb
    have e4 : (xs.drop f)[1]? = some b := by rw [List.getElem?_drop]; exact hb
    rw [lineL_mark _ p1 (by simp; omega) b (List.mem_of_getElem? e4), lineL_mark _ p2 (by simp; omega) b (List.mem_of_getElem? e3)]
set_option maxRecDepth 100000 in
set_option maxHeartbeats 2000000 in
theorem implLineG (xs : List GClockMark) (v : Value) (x : Int) (w : World) (B : Nat) (h : ClockMarkL w B v xs) (hB : B ≤ w.heap.size) (hg : okTk xs) (h0 : -3000000 ≤ x) (h1 : x ≤ 3000000) :
    Calls Try.prog 96 #[v, .int .i64 x] w fun e w' => e = .returned (.int .i64 (lineL xs x)) ∧ Grew w w' := by
  obtain ⟨ao, cap, rfl, hcap, hmax, -, hc⟩ := h
  have hl2 := hg.1.1
  have hl10 := hg.1.2
  have HG := Lib.hid hg
  have HC := Lib.hid hc
  generalize hres : lineL xs x = res
  have HR := Lib.hid hres
  clear hc hg hres
  go_enter Try.func96, Try.ntmps96
  go_upto_block 0 with fail
  go_cut [5] from 8 to 24 (fun s wx => ∃ (k : Nat) (a b : GClockMark), (k + 1 < xs.length) ∧ s = .int .i64 k ∧ Hid (xs[k]? = some a ∧ xs[k + 1]? = some b ∧ lineAt a b x = res) ∧ w = wx)
  case first =>
    go_wp2_with fail
    go_loopw [5] (fun i wr => ∃ k : Nat, (k + 1 < xs.length) ∧ i = .int .i64 k ∧ Hid (lineL (xs.drop k) x = res) ∧ w = wr) (fun i _ => xs.length - (intOf i).toNat)
    case atStart => exact ⟨0, by omega, rfl, Lib.hid (by simpa using HR.out), rfl⟩
    case round =>
      obtain ⟨k, hk2, rfl, HL, hwr⟩ := hrel
      subst hwr
      obtain ⟨a, ha⟩ := get_of_lt (l := xs) (k := k) (by omega)
      obtain ⟨b, hb⟩ := get_of_lt hk2
      obtain ⟨bb, off, rfl, hbb, hcell⟩ := HC.out (k + 1) b hb
      have c0 : w.cell? ⟨bb, off + (k + 1) * 2, none⟩ = some (.int .i64 b.pShown) := hcell 0 _ rfl
      have hi0 : (0 : Int) ≤ (k : Int) + 1 := by omega
      have hi1 : (k : Int) + 1 < (xs.length : Int) := by omega
      have hi2 : (xs.length : Int) ≤ 10 := by omega
      have hi3 : ((k : Int) + 1).toNat = k + 1 := by omega
      have HA := Lib.hid ha
      have HB := Lib.hid hb
      clear ha hb hcell
      by_cases hn : k + 2 < xs.length
      case neg =>
        have g1 : ¬ (k : Int) + 2 < (xs.length : Int) := by omega
        have HX : Hid (lineAt a b x = res) := Lib.hid (by rw [← HL.out]; exact (lineL_here (k := k + 1) (by omega) HA.out HB.out (Or.inl (by omega))).symm)
        go_wp2
        go_meet
        exact ⟨k, a, b, hk2, rfl, Lib.hid ⟨HA.out, HB.out, HX.out⟩, rfl⟩
      have g1 : (k : Int) + 2 < (xs.length : Int) := by omega
      by_cases hs : b.pShown ≤ x
      case neg =>
        have HX : Hid (lineAt a b x = res) := Lib.hid (by rw [← HL.out]; exact (lineL_here (k := k + 1) (by omega) HA.out HB.out (Or.inr (by omega))).symm)
        go_wp2
        go_meet
        exact ⟨k, a, b, hk2, rfl, Lib.hid ⟨HA.out, HB.out, HX.out⟩, rfl⟩
      have HL2 : Hid (lineL (xs.drop (k + 1)) x = res) := Lib.hid (by rw [← HL.out]; exact (lineL_go HG.out.2.2 hn HB.out hs).symm)
      go_wp2
      go_roundw
      case rel => exact ⟨k + 1, by omega, by go_num, HL2, by first | rfl | trivial⟩
      case measure => simp [intOf]; omega
  case rest =>
    obtain ⟨k, a, b, hk2, rfl, HX, hw⟩ := hcut
    subst hw
    have ta := okTk_tick HG.out HX.out.1
    have tb := okTk_tick HG.out HX.out.2.1
    have hbf := okTk_next (k := k + 1) HG.out HX.out.1 HX.out.2.1 (by omega)
    have hbd := lineAt_bd ta tb hbf h0 h1
    obtain ⟨bb, off, rfl, hbb, hcell⟩ := HC.out (k + 1) b HX.out.2.1
    obtain ⟨b', off', e9, -, hcell2⟩ := HC.out k a HX.out.1
    simp only [Option.some.injEq, Addr.mk.injEq, and_true] at e9
    obtain ⟨rfl, rfl⟩ := e9
    have c0 : w.cell? ⟨bb, off + (k + 1) * 2, none⟩ = some (.int .i64 b.pShown) := hcell 0 _ rfl
    have c1 : w.cell? ⟨bb, off + (k + 1) * 2 + 1, none⟩ = some (.int .i64 b.pTrue) := hcell 1 _ rfl
    have d0 : w.cell? ⟨bb, off + k * 2, none⟩ = some (.int .i64 a.pShown) := hcell2 0 _ rfl
    have d1 : w.cell? ⟨bb, off + k * 2 + 1, none⟩ = some (.int .i64 a.pTrue) := hcell2 1 _ rfl
    have mp0 : (0 : Int) ≤ (k : Int) := by omega
    have mp1 : (k : Int) < (xs.length : Int) := by omega
    have mp2 : (0 : Int) ≤ (k : Int) + 1 := by omega
    have mp3 : (k : Int) + 1 < (xs.length : Int) := by omega
    have mp4 : ((k : Int) + 1).toNat = k + 1 := by omega
    have mp5 : IntKind.i64.wrap ((k : Int) + 1) = (k : Int) + 1 := IntWalk.i64_in _ (by omega)
    have mp8 : k + 1 < xs.length := by omega
    have mp9 : k < xs.length := by omega
    have HS0 := Lib.hid (show ∀ w', Below w.heap.size w w' → w'.cell? ⟨bb, off + (k + 1) * 2, none⟩ = some (.int .i64 b.pShown) ∧ w'.cell? ⟨bb, off + (k + 1) * 2 + 1, none⟩ = some (.int .i64 b.pTrue) ∧ w'.cell? ⟨bb, off + k * 2, none⟩ = some (.int .i64 a.pShown) ∧ w'.cell? ⟨bb, off + k * 2 + 1, none⟩ = some (.int .i64 a.pTrue) from fun w' q => ⟨cellOf q (cell_of_lt c0) c0, cellOf q (cell_of_lt c1) c1, cellOf q (cell_of_lt d0) d0, cellOf q (cell_of_lt d1) d1⟩)
    clear hcell hcell2
    go_upto_region 4 with fail
    go_cut [6, 7] from 25 to 33 (fun s6 s7 wx => ∃ g1 g2 : Nat, s6 = .pointer (some ⟨g1, 0, none⟩) ∧ s7 = .pointer (some ⟨g2, 0, none⟩) ∧ (wx.cell? ⟨g1, 0, none⟩ = some (.int .i64 a.pShown) ∧ wx.cell? ⟨g1, 1, none⟩ = some (.int .i64 a.pTrue)) ∧ (wx.cell? ⟨g2, 0, none⟩ = some (.int .i64 b.pShown) ∧ wx.cell? ⟨g2, 1, none⟩ = some (.int .i64 b.pTrue)) ∧ Grew w wx)
    case first =>
      have w1a : Bx ((w.alloc (.cells #[.int .i64 a.pShown, .int .i64 a.pTrue] 50)).alloc (.cells #[.int .i64 b.pShown, .int .i64 b.pTrue] 50)).drew w.heap.size [.int .i64 a.pShown, .int .i64 a.pTrue] := (Bx.new w [.int .i64 a.pShown, .int .i64 a.pTrue] 50).alloc _
      have w1b : Bx ((w.alloc (.cells #[.int .i64 a.pShown, .int .i64 a.pTrue] 50)).alloc (.cells #[.int .i64 b.pShown, .int .i64 b.pTrue] 50)).drew (w.heap.size + 1) [.int .i64 b.pShown, .int .i64 b.pTrue] := Bx.new1 w (.cells #[.int .i64 a.pShown, .int .i64 a.pTrue] 50) [.int .i64 b.pShown, .int .i64 b.pTrue] 50
      have w2b : Bx ((w.alloc (.cells #[.int .i64 b.pShown, .int .i64 b.pTrue] 50)).alloc (.cells #[.int .i64 a.pShown, .int .i64 a.pTrue] 50)).drew w.heap.size [.int .i64 b.pShown, .int .i64 b.pTrue] := (Bx.new w [.int .i64 b.pShown, .int .i64 b.pTrue] 50).alloc _
      have w2a : Bx ((w.alloc (.cells #[.int .i64 b.pShown, .int .i64 b.pTrue] 50)).alloc (.cells #[.int .i64 a.pShown, .int .i64 a.pTrue] 50)).drew (w.heap.size + 1) [.int .i64 a.pShown, .int .i64 a.pTrue] := Bx.new1 w (.cells #[.int .i64 b.pShown, .int .i64 b.pTrue] 50) [.int .i64 a.pShown, .int .i64 a.pTrue] 50
      go_region_held3 (fun w' => w'.cell? ⟨bb, off + (k + 1) * 2, none⟩ = some (.int .i64 b.pShown) ∧ w'.cell? ⟨bb, off + (k + 1) * 2 + 1, none⟩ = some (.int .i64 b.pTrue) ∧ w'.cell? ⟨bb, off + k * 2, none⟩ = some (.int .i64 a.pShown) ∧ w'.cell? ⟨bb, off + k * 2 + 1, none⟩ = some (.int .i64 a.pTrue))
        (first
          | (with_reducible refine HS0.out _ ?_
             repeat (first | with_reducible exact Below.refl _ _ | (with_reducible refine Below.drew ?_) | (with_reducible refine Below.alloc ?_ (by first | omega | (simp; done) | (simp; omega)) _) | (with_reducible refine Below.setCell ?_ (by first | omega | (simp; done) | (simp; omega)) _))))
        (fail)
      all_goals
        go_wp2_with fail
        go_meet
        first
          | exact ⟨_, _, rfl, rfl, ⟨w1a.2 0 _ rfl, w1a.2 1 _ rfl⟩, ⟨w1b.2 0 _ rfl, w1b.2 1 _ rfl⟩, (((Grew.refl _).alloc _).alloc _).drew⟩
          | exact ⟨_, _, rfl, rfl, ⟨w2a.2 0 _ rfl, w2a.2 1 _ rfl⟩, ⟨w2b.2 0 _ rfl, w2b.2 1 _ rfl⟩, (((Grew.refl _).alloc _).alloc _).drew⟩
    case rest =>
      obtain ⟨g1, g2, rfl, rfl, ⟨f0, f1⟩, ⟨f2, f3⟩, hb9⟩ := hcut
      unfold tickM at ta tb
      unfold befTk at hbf
      have hp1 := hbd.1
      have hpos : 0 < b.pShown - a.pShown := by omega
      have CD := Lib.hid (fun W => implDown ((x - a.pShown) * (b.pTrue - a.pTrue)) (b.pShown - a.pShown) W hpos hp1.1 hp1.2)
      have hline : lineAt a b x = a.pTrue + (x - a.pShown) * (b.pTrue - a.pTrue) / (b.pShown - a.pShown) := rfl
      have hres : lineAt a b x = res := HX.out.2.2
      have hlb := hbd.2
      rw [hres] at hline hlb
      have s1 : IntKind.i64.wrap (x - a.pShown) = x - a.pShown := IntWalk.i64_in _ (by omega)
      have s2 : IntKind.i64.wrap (b.pTrue - a.pTrue) = b.pTrue - a.pTrue := IntWalk.i64_in _ (by omega)
      have s3 : IntKind.i64.wrap ((x - a.pShown) * (b.pTrue - a.pTrue)) = (x - a.pShown) * (b.pTrue - a.pTrue) := IntWalk.i64_in _ (by omega)
      have s4 : IntKind.i64.wrap (b.pShown - a.pShown) = b.pShown - a.pShown := IntWalk.i64_in _ (by omega)
      have s5 : IntKind.i64.wrap (a.pTrue + (x - a.pShown) * (b.pTrue - a.pTrue) / (b.pShown - a.pShown)) = res := by rw [← hline]; exact IntWalk.i64_in _ (by omega)
      clear hbd hbf hres ta tb hline hp1 hpos
      go_wp2
      go_quiet ((go_at_call 123; exact Calls.quiet_of_same (CD.out _)))
      go_wp2
      go_ret
      exact ⟨rfl, hb9.drewN nq⟩
theorem implLine (xs : List GClockMark) (v : Value) (x : Int) (w : World) (B : Nat) (h : ClockMarkL w B v xs) (hB : B ≤ w.heap.size) (hg : okTk xs) (h0 : -3000000 ≤ x) (h1 : x ≤ 3000000) :
    Calls Try.prog 96 #[v, .int .i64 x] w fun e w' => e = .returned (.int .i64 (lineL xs x)) ∧ Below w.heap.size w w' :=
  (implLineG xs v x w B h hB hg h0 h1).mono fun _ _ ⟨a, b⟩ => ⟨a, b.below⟩
set_option maxRecDepth 100000 in
set_option maxHeartbeats 1000000 in
theorem implTT (xs : List GClockMark) (v : Value) (x : Int) (w : World) (B : Nat) (h : ClockMarkL w B v xs) (hB : B ≤ w.heap.size) (hn : szsClockMark xs ≤ 1048576) (hw : ∀ m ∈ xs, wfClockMark m) (_ : I64 x) :
    Calls Try.prog 36 #[v, .int .i64 x] w fun e w' => e = .returned (.tuple #[.int .i64 (numTT xs x), .bool (okTT xs x)]) ∧ Below w.heap.size w w' := by
  cases hg : goodTk xs with
  | false =>
    have C := Lib.hid (implGoodTk xs v w B h hB false hg)
    have HF := Lib.hid (noTT (xs := xs) (x := x) (by unfold okTT; rw [hg]; rfl))
    obtain ⟨ao, cap, rfl⟩ := h.form
    clear h hg
    go_enter Try.func36, Try.ntmps36
    go_wp2_with fail
    refine C.out.mono ?_
    rintro e w1 ⟨rfl, hb⟩
    go_wp2
    go_ret2
    exact ⟨HF.out, hb⟩
  | true =>
    have C := Lib.hid (implGoodTk xs v w B h hB true hg)
    have hok := goodTk_yes hg
    cases ht : tickB x with
    | false =>
      have CT := Lib.hid (fun W => tickIB x false W ht)
      have HF := Lib.hid (noTT (xs := xs) (x := x) (by unfold okTT; rw [hg, ht]; rfl))
      obtain ⟨ao, cap, rfl⟩ := h.form
      clear h hg ht hok
      go_enter Try.func36, Try.ntmps36
      go_wp2_with fail
      refine C.out.mono ?_
      rintro e w1 ⟨rfl, hb⟩
      go_wp2_with fail
      refine (CT.out _).mono ?_
      rintro e w2 ⟨rfl, hw2⟩
      obtain rfl := hw2
      go_wp2
      go_ret2
      exact ⟨HF.out, hb⟩
    | true =>
      have CT := Lib.hid (fun W => tickIB x true W ht)
      have hx := tickB_yes ht
      have CL := Lib.hid (fun w' (q : Below w.heap.size w w') => implLine xs v x w' B (h.below (q.mono hB)) (Nat.le_trans hB q.size) hok (by omega) (by omega))
      cases hz : tickB (lineL xs x) with
      | false =>
        have CZ := Lib.hid (fun W => tickIB (lineL xs x) false W hz)
        have HF := Lib.hid (noTT (xs := xs) (x := x) (by unfold okTT; rw [hg, ht, hz]; rfl))
        obtain ⟨ao, cap, rfl⟩ := h.form
        clear h hg ht hok hz hx
        go_enter Try.func36, Try.ntmps36
        go_wp2_with fail
        refine C.out.mono ?_
        rintro e w1 ⟨rfl, hb⟩
        go_wp2_with fail
        refine (CT.out _).mono ?_
        rintro e w2 ⟨rfl, hw2⟩
        obtain rfl := hw2
        go_wp2_with fail
        refine (CL.out _ hb).mono ?_
        rintro e w3 ⟨rfl, hb3⟩
        go_wp2_with fail
        refine (CZ.out _).mono ?_
        rintro e w4 ⟨rfl, hw4⟩
        obtain rfl := hw4
        go_wp2
        go_ret2
        exact ⟨HF.out, hb.trans (hb3.mono hb.size)⟩
      | true =>
        have CZ := Lib.hid (fun W => tickIB (lineL xs x) true W hz)
        have HF := Lib.hid (yesTT (xs := xs) (x := x) (by unfold okTT; rw [hg, ht, hz]; rfl))
        obtain ⟨ao, cap, rfl⟩ := h.form
        clear h hg ht hok hz hx
        go_enter Try.func36, Try.ntmps36
        go_wp2_with fail
        refine C.out.mono ?_
        rintro e w1 ⟨rfl, hb⟩
        go_wp2_with fail
        refine (CT.out _).mono ?_
        rintro e w2 ⟨rfl, hw2⟩
        obtain rfl := hw2
        go_wp2_with fail
        refine (CL.out _ hb).mono ?_
        rintro e w3 ⟨rfl, hb3⟩
        go_wp2_with fail
        refine (CZ.out _).mono ?_
        rintro e w4 ⟨rfl, hw4⟩
        obtain rfl := hw4
        go_wp2
        go_ret2
        exact ⟨HF.out, hb.trans (hb3.mono hb.size)⟩
end Go.Proofs.Ytklilfbokpljkac
