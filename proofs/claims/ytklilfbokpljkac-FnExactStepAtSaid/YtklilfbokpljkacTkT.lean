/- True and shown ticks: the specification. -/
import Derived.Test.YtklilfbokpljkacTkN
namespace Go.Proofs.Ytklilfbokpljkac
open Go.ChangeShapes Go.WideShapes Go.ChangeAt Go.RowKit Go.ChangeMaps
set_option linter.unusedSimpArgs false
set_option linter.unusedVariables false

def tickB (z : Int) : Bool := decide (0 ≤ z ∧ z ≤ 1000000)
theorem tickB_yes {z : Int} (h : tickB z = true) : 0 ≤ z ∧ z ≤ 1000000 := of_decide_eq_true h
theorem tickB_no {z : Int} (h : tickB z = false) : ¬ (0 ≤ z ∧ z ≤ 1000000) := of_decide_eq_false h
noncomputable def okTT (xs : List GClockMark) (x : Int) : Bool := goodTk xs && (tickB x && tickB (lineL xs x))
noncomputable def numTT (xs : List GClockMark) (x : Int) : Int := if okTT xs x then lineL xs x else 0
noncomputable def okST (xs : List GClockMark) (t : Int) : Bool := goodTk xs && (tickB t && (decide (firstTk xs t ≤ 1000000) && tickB (lineL xs (firstTk xs t))))
noncomputable def numST (xs : List GClockMark) (t : Int) : Int := if okST xs t then firstTk xs t else 0
theorem noTT {xs : List GClockMark} {x : Int} (h : okTT xs x = false) : Ending.returned (.tuple #[.int .i64 0, .bool false]) = .returned (.tuple #[.int .i64 (numTT xs x), .bool (okTT xs x)]) := by unfold numTT; rw [h]; rfl
theorem yesTT {xs : List GClockMark} {x : Int} (h : okTT xs x = true) : Ending.returned (.tuple #[.int .i64 (lineL xs x), .bool true]) = .returned (.tuple #[.int .i64 (numTT xs x), .bool (okTT xs x)]) := by unfold numTT; rw [h]; rfl
theorem noST {xs : List GClockMark} {x : Int} (h : okST xs x = false) : Ending.returned (.tuple #[.int .i64 0, .bool false]) = .returned (.tuple #[.int .i64 (numST xs x), .bool (okST xs x)]) := by unfold numST; rw [h]; rfl
theorem yesST {xs : List GClockMark} {x r : Int} (h : okST xs x = true) (hr : firstTk xs x = r) : Ending.returned (.tuple #[.int .i64 r, .bool true]) = .returned (.tuple #[.int .i64 (numST xs x), .bool (okST xs x)]) := by unfold numST; rw [h, ← hr]; rfl
theorem specGoodTkV (xs : List GClockMark) (v : Value) (w : World) (B : Nat) (h : ClockMarkL w B v xs) (hB : B ≤ w.heap.size) (hn : xs.length ≤ 1048576) (u : Bool) (hu : goodTk xs = u) :
    Calls Try.prog 97 #[v] w fun e w' => e = .returned (.bool u) ∧ Below w.heap.size w w' := by
  subst hu
  refine (specGoodTk xs v w B h hB hn).mono ?_
  rintro e w' ⟨rfl, n, rfl⟩
  exact ⟨rfl, drewN_b (Below.refl _ _) n⟩
set_option maxRecDepth 100000 in
set_option maxHeartbeats 1000000 in
theorem specTT (xs : List GClockMark) (v : Value) (x : Int) (w : World) (B : Nat) (h : ClockMarkL w B v xs) (hB : B ≤ w.heap.size) (hn : szsClockMark xs ≤ 1048576) (hw : ∀ m ∈ xs, wfClockMark m) (_ : I64 x) :
    Calls Try.prog 37 #[v, .int .i64 x] w fun e w' => e = .returned (.tuple #[.int .i64 (numTT xs x), .bool (okTT xs x)]) ∧ Below w.heap.size w w' := by
  have hl : xs.length ≤ 1048576 := Nat.le_trans (szsClockMark_len xs) hn
  cases hg : goodTk xs with
  | false =>
    have C := Lib.hid (specGoodTkV xs v w B h hB hl false hg)
    have HF := Lib.hid (noTT (xs := xs) (x := x) (by unfold okTT; rw [hg]; rfl))
    obtain ⟨ao, cap, rfl⟩ := h.form
    clear h hg
    go_enter Try.func37, Try.ntmps37
    go_wp2_with fail
    refine C.out.mono ?_
    rintro e w1 ⟨rfl, hb⟩
    go_wp2
    go_ret2
    exact ⟨HF.out, hb⟩
  | true =>
    have C := Lib.hid (specGoodTkV xs v w B h hB hl true hg)
    have hok := goodTk_yes hg
    cases ht : tickB x with
    | false =>
      have CT := Lib.hid (fun W => specTickB x false W ht)
      have HF := Lib.hid (noTT (xs := xs) (x := x) (by unfold okTT; rw [hg, ht]; rfl))
      obtain ⟨ao, cap, rfl⟩ := h.form
      clear h hg ht hok
      go_enter Try.func37, Try.ntmps37
      go_wp2_with fail
      refine C.out.mono ?_
      rintro e w1 ⟨rfl, hb⟩
      go_wp2_with fail
      refine (CT.out _).mono ?_
      rintro e w2 ⟨rfl, hw2⟩
      obtain rfl := hw2
      go_wp2
      go_ret2
      exact ⟨HF.out, hb⟩
    | true =>
      have CT := Lib.hid (fun W => specTickB x true W ht)
      have hx := tickB_yes ht
      have CL := Lib.hid (fun w' (q : Below w.heap.size w w') => specLine xs v x w' B (h.below (q.mono hB)) (Nat.le_trans hB q.size) hok (by omega) (by omega))
      cases hz : tickB (lineL xs x) with
      | false =>
        have CZ := Lib.hid (fun W => specTickB (lineL xs x) false W hz)
        have HF := Lib.hid (noTT (xs := xs) (x := x) (by unfold okTT; rw [hg, ht, hz]; rfl))
        obtain ⟨ao, cap, rfl⟩ := h.form
        clear h hg ht hok hz hx
        go_enter Try.func37, Try.ntmps37
        go_wp2_with fail
        refine C.out.mono ?_
        rintro e w1 ⟨rfl, hb⟩
        go_wp2_with fail
        refine (CT.out _).mono ?_
        rintro e w2 ⟨rfl, hw2⟩
        obtain rfl := hw2
        go_wp2_with fail
        refine (CL.out _ hb).mono ?_
        rintro e w3 ⟨rfl, hb3⟩
        go_wp2_with fail
        refine (CZ.out _).mono ?_
        rintro e w4 ⟨rfl, hw4⟩
        obtain rfl := hw4
        go_wp2
        go_ret2
        exact ⟨HF.out, hb.trans (hb3.mono hb.size)⟩
      | true =>
        have CZ := Lib.hid (fun W => specTickB (lineL xs x) true W hz)
        have HF := Lib.hid (yesTT (xs := xs) (x := x) (by unfold okTT; rw [hg, ht, hz]; rfl))
        obtain ⟨ao, cap, rfl⟩ := h.form
        clear h hg ht hok hz hx
        go_enter Try.func37, Try.ntmps37
        go_wp2_with fail
        refine C.out.mono ?_
        rintro e w1 ⟨rfl, hb⟩
        go_wp2_with fail
        refine (CT.out _).mono ?_
        rintro e w2 ⟨rfl, hw2⟩
        obtain rfl := hw2
        go_wp2_with fail
        refine (CL.out _ hb).mono ?_
        rintro e w3 ⟨rfl, hb3⟩
        go_wp2_with fail
        refine (CZ.out _).mono ?_
        rintro e w4 ⟨rfl, hw4⟩
        obtain rfl := hw4
        have hb5 := hb.trans (hb3.mono hb.size)
        go_wp2_with fail
        refine (CL.out _ hb5).mono ?_
        rintro e w5 ⟨rfl, hb6⟩
        go_wp2
        go_ret2
        exact ⟨HF.out, hb5.trans (hb6.mono hb5.size)⟩
set_option maxRecDepth 100000 in
set_option maxHeartbeats 2000000 in
theorem specST (xs : List GClockMark) (v : Value) (t : Int) (w : World) (B : Nat) (h : ClockMarkL w B v xs) (hB : B ≤ w.heap.size) (hn : szsClockMark xs ≤ 1048576) (hw : ∀ m ∈ xs, wfClockMark m) (_ : I64 t) :
    Calls Try.prog 40 #[v, .int .i64 t] w fun e w' => e = .returned (.tuple #[.int .i64 (numST xs t), .bool (okST xs t)]) ∧ Below w.heap.size w w' := by
  have hl : xs.length ≤ 1048576 := Nat.le_trans (szsClockMark_len xs) hn
  cases hg : goodTk xs with
  | false =>
    have C := Lib.hid (specGoodTkV xs v w B h hB hl false hg)
    have HF := Lib.hid (noST (xs := xs) (x := t) (by unfold okST; rw [hg]; rfl))
    obtain ⟨ao, cap, rfl⟩ := h.form
    clear h hg
    go_enter Try.func40, Try.ntmps40
    go_wp2_with fail
    refine C.out.mono ?_
    rintro e w1 ⟨rfl, hb⟩
    go_wp2
    go_ret2
    exact ⟨HF.out, hb⟩
  | true =>
    have C := Lib.hid (specGoodTkV xs v w B h hB hl true hg)
    have hok := goodTk_yes hg
    cases ht : tickB t with
    | false =>
      have CT := Lib.hid (fun W => specTickB t false W ht)
      have HF := Lib.hid (noST (xs := xs) (x := t) (by unfold okST; rw [hg, ht]; rfl))
      obtain ⟨ao, cap, rfl⟩ := h.form
      clear h hg ht hok
      go_enter Try.func40, Try.ntmps40
      go_wp2_with fail
      refine C.out.mono ?_
      rintro e w1 ⟨rfl, hb⟩
      go_wp2_with fail
      refine (CT.out _).mono ?_
      rintro e w2 ⟨rfl, hw2⟩
      obtain rfl := hw2
      go_wp2
      go_ret2
      exact ⟨HF.out, hb⟩
    | true =>
      have CT := Lib.hid (fun W => specTickB t true W ht)
      have hx := tickB_yes ht
      have CL := Lib.hid (fun w' (q : Below w.heap.size w w') (y : Int) (y0 : -3000000 ≤ y) (y1 : y ≤ 3000000) => specLine xs v y w' B (h.below (q.mono hB)) (Nat.le_trans hB q.size) hok y0 y1)
      have HK := Lib.hid hok
      have HGT := Lib.hid (And.intro hg ht)
      obtain ⟨ao, cap, rfl⟩ := h.form
      clear h hg ht hok
      go_enter Try.func40, Try.ntmps40
      go_wp2_with fail
      refine C.out.mono ?_
      rintro e w1 ⟨rfl, hb⟩
      go_wp2_with fail
      refine (CT.out _).mono ?_
      rintro e w2 ⟨rfl, hw2⟩
      obtain rfl := hw2
      go_wp2
      go_loopw [6, 7] (fun i j wr => ∃ lo hi : Int, i = .int .i64 lo ∧ j = .int .i64 hi ∧ (0 ≤ lo ∧ lo ≤ hi ∧ hi ≤ 1000001) ∧ Hid (lo = 0 ∨ lineL xs (lo - 1) < t) ∧ Hid (hi = 1000001 ∨ t ≤ lineL xs hi) ∧ Below w.heap.size w wr) (fun i j _ => (intOf j - intOf i).toNat)
      case atStart => exact ⟨0, 1000001, rfl, rfl, by omega, Lib.hid (Or.inl rfl), Lib.hid (Or.inl rfl), hb⟩
      case round =>
        obtain ⟨lo, hi, rfl, rfl, ⟨b0, b1, b2⟩, H1, H2, hbl⟩ := hrel
        have hsz := hbl.size
        by_cases hlt : lo < hi
        case neg =>
          obtain rfl : lo = hi := by omega
          have HF1 := Lib.hid (firstTk_is (isFirst_mk HK.out ⟨b0, b2⟩ H1.out H2.out))
          by_cases hm : lo ≤ 1000000
          case neg =>
            have HF := Lib.hid (noST (xs := xs) (x := t) (by unfold okST; rw [HGT.out.1, HGT.out.2, HF1.out, decide_eq_false hm]; rfl))
            have g1 : (1000000 : Int) < lo := by omega
            go_wp2
            go_ret2
            exact ⟨HF.out, hbl⟩
          have g1 : ¬ (1000000 : Int) < lo := by omega
          cases hz : tickB (lineL xs lo) with
          | false =>
            have CZ := Lib.hid (fun W => specTickB (lineL xs lo) false W hz)
            have HF := Lib.hid (noST (xs := xs) (x := t) (by unfold okST; rw [HGT.out.1, HGT.out.2, HF1.out, decide_eq_true hm, hz]; rfl))
            clear hz
            go_wp2_with fail
            refine (CL.out _ hbl lo (by omega) (by omega)).mono ?_
            rintro e w3 ⟨rfl, hb3⟩
            go_wp2_with fail
            refine (CZ.out _).mono ?_
            rintro e w4 ⟨rfl, hw4⟩
            obtain rfl := hw4
            go_wp2
            go_ret2
            exact ⟨HF.out, hbl.trans (hb3.mono hsz)⟩
          | true =>
            have CZ := Lib.hid (fun W => specTickB (lineL xs lo) true W hz)
            have HF := Lib.hid (yesST (xs := xs) (x := t) (by unfold okST; rw [HGT.out.1, HGT.out.2, HF1.out, decide_eq_true hm, hz]; rfl) HF1.out)
            clear hz
            go_wp2_with fail
            refine (CL.out _ hbl lo (by omega) (by omega)).mono ?_
            rintro e w3 ⟨rfl, hb3⟩
            go_wp2_with fail
            refine (CZ.out _).mono ?_
            rintro e w4 ⟨rfl, hw4⟩
            obtain rfl := hw4
            go_wp2
            go_ret2
            exact ⟨HF.out, hbl.trans (hb3.mono hsz)⟩
        obtain ⟨mi, hmi, hmi2⟩ : ∃ mi, (lo + hi).tdiv 2 = mi ∧ (lo ≤ mi ∧ mi < hi) := ⟨(lo + hi) / 2, Int.tdiv_eq_ediv_of_nonneg (by omega), by omega⟩
        have mb : -3000000 ≤ mi ∧ mi ≤ 3000000 := by omega
        go_wp2_with fail
        refine (CL.out _ hbl mi mb.1 mb.2).mono ?_
        rintro e w3 ⟨rfl, hb3⟩
        have hb4 := hbl.trans (hb3.mono hsz)
        have HT : Hid (mi + 1 = 0 ∨ lineL xs (mi + 1 - 1) < t ∨ t ≤ lineL xs mi) := Lib.hid (by rw [show mi + 1 - 1 = mi by omega]; omega)
        have HT2 := Lib.hid (show lineL xs (mi + 1 - 1) = lineL xs mi by rw [show mi + 1 - 1 = mi by omega])
        generalize hln : lineL xs mi = ln at *
        have HLN := Lib.hid hln
        clear hln
        by_cases hge : t ≤ ln
        · go_wp2
          go_roundw
          case rel => exact ⟨lo, mi, rfl, rfl, by omega, H1, Lib.hid (Or.inr (by rw [HLN.out]; exact hge)), hb4⟩
          case measure => simp [intOf]; omega
        · go_wp2
          go_roundw
          case rel => exact ⟨mi + 1, hi, by go_num, rfl, by omega, Lib.hid (Or.inr (by rw [HT2.out]; omega)), H2, hb4⟩
          case measure => simp [intOf]; omega
end Go.Proofs.Ytklilfbokpljkac
