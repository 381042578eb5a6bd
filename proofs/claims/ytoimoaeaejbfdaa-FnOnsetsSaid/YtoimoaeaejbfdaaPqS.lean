/- Picks: IsPick, ArePicks, WithdrawLast, WindowOf. -/
import Derived.Test.YtoimoaeaejbfdaaPqR
import Derived.Test.YtoimoaeaejbfdaaIns
namespace Go.Proofs.Ytoimoaeaejbfdaa
open Go.ChangeShapes Go.WideShapes Go.ChangeAt Go.RowKit Go.ChangeMaps Go.Sort Go.Shelf
set_option linter.unusedSimpArgs false
set_option linter.unusedVariables false

theorem specIsPk (p : GPick) (v : Value) (w : World) (B : Nat) (h : PickVL w B v p) (_ : B ≤ w.heap.size) (_ : sz1Pick p ≤ 1048576) (_ : wfPick p) :
    Calls Try.prog 34 #[v] w fun e w' => e = .returned (.bool (oneB p)) ∧ Below w.heap.size w w' := by
  obtain rfl := h.form
  have N := below_cell (w := w) (Nat.le_refl _) (.cells #[.int .i64 p.pId, .int .i64 p.pStation, .int .i64 p.pWave, .int .i64 p.pTick, .int .i64 p.pError, .int .i64 p.pBy, .int .i64 p.pAfter] 43)
  generalize hu : oneB p = u
  have C := Lib.hid (fun W => specOne p u W hu)
  clear hu
  go_enter Try.func34, Try.ntmps34
  go_wp2_with fail
  refine (C.out _).mono ?_
  rintro e w1 ⟨rfl, hb⟩
  go_wp2
  go_ret
  first | exact ⟨rfl, hb⟩ | exact ⟨rfl, N.trans (hb.mono N.size)⟩
theorem implIsPk (p : GPick) (v : Value) (w : World) (B : Nat) (h : PickVL w B v p) (_ : B ≤ w.heap.size) (_ : sz1Pick p ≤ 1048576) (_ : wfPick p) :
    Calls Try.prog 33 #[v] w fun e w' => e = .returned (.bool (oneB p)) ∧ Below w.heap.size w w' := by
  obtain rfl := h.form
  exact implOne p _ w rfl
theorem specArePk (xs : List GPick) (v : Value) (w : World) (B : Nat) (h : PickL w B v xs) (hB : B ≤ w.heap.size) (hn : szsPick xs ≤ 1048576) (hw : ∀ s ∈ xs, wfPick s) :
    Calls Try.prog 49 #[v] w fun e w' => e = .returned (.bool (goodP xs)) ∧ Below w.heap.size w w' := by
  have C := Lib.hid (specGoodP xs v _ w B h hB (Nat.le_trans (szsPick_len xs) hn) rfl)
  obtain ⟨ao, cap, rfl⟩ := h.form
  go_enter Try.func49, Try.ntmps49
  go_wp2_with fail
  refine C.out.mono ?_
  rintro e w1 ⟨rfl, hb⟩
  go_wp2
  go_ret
  exact ⟨rfl, hb⟩
theorem implArePk (xs : List GPick) (v : Value) (w : World) (B : Nat) (h : PickL w B v xs) (hB : B ≤ w.heap.size) (hn : szsPick xs ≤ 1048576) (hw : ∀ s ∈ xs, wfPick s) :
    Calls Try.prog 24 #[v] w fun e w' => e = .returned (.bool (goodP xs)) ∧ Below w.heap.size w w' := implGoodP xs v _ w B h hB (Nat.le_trans (szsPick_len xs) hn) rfl
/-- The last one withdrawn. -/
noncomputable def okWd (xs : List GPick) : Bool := goodP xs && decide (0 < xs.length)
noncomputable def resWd (xs : List GPick) : List GPick := if okWd xs = true then xs.take (xs.length - 1) else []
theorem wd_bad {xs : List GPick} (h : goodP xs = false) : okWd xs = false ∧ resWd xs = [] := by
  have e : okWd xs = false := by unfold okWd; rw [h]; rfl
  exact ⟨e, by unfold resWd; rw [e]; rfl⟩
theorem wd_nil {xs : List GPick} (h : xs.length = 0) : okWd xs = false ∧ resWd xs = [] := by
  have e : okWd xs = false := by unfold okWd; rw [decide_eq_false (by omega), Bool.and_false]
  exact ⟨e, by unfold resWd; rw [e]; rfl⟩
theorem wd_yes {xs : List GPick} (h : goodP xs = true) (h0 : 0 < xs.length) : okWd xs = true ∧ resWd xs = xs.take (xs.length - 1) := by
  have e : okWd xs = true := by unfold okWd; rw [h, decide_eq_true h0]; rfl
  exact ⟨e, by unfold resWd; rw [e]; rfl⟩
theorem resWd_len {xs : List GPick} (hn : szsPick xs ≤ 1048576) : szsPick (resWd xs) ≤ 1048576 := by
  rw [szsPick_split] at *
  unfold resWd
  split
  · rw [List.length_take]; omega
  · simp
/-- A whole list as a source. -/
theorem lst_src {w : World} {B : Nat} {b off n cap : Nat} {xs : List GPick} (h : PickL w B (.slice (some ⟨b, off, none⟩) n cap) xs) : ∀ j u, (xs.flatMap encPick)[j]? = some u → w.cell? ((⟨b, off, none⟩ : Addr).add j) = some u := by
  intro j u hu
  have hj : j < xs.length * 7 := by have := (List.getElem?_eq_some_iff.1 hu).1; rwa [flat_len encPick_len] at this
  obtain ⟨x, hx⟩ := get_of_lt (l := xs) (k := j / 7) (by omega)
  have h1 := flat_get encPick_len xs (j / 7) x hx (j % 7) (by omega)
  rw [show j / 7 * 7 + j % 7 = j by omega, hu] at h1
  have h2 := (h.at hx).2 (j % 7) u h1.symm
  rw [Addr.add_lit]
  rwa [show off + j / 7 * 7 + j % 7 = off + j by omega] at h2
theorem src_of {w : World} {B : Nat} {b off n cap : Nat} {xs : List GPick} (h : PickL w B (.slice (some ⟨b, off, none⟩) n cap) xs) (hn : n = xs.length) : SrcK w 7 (.slice (some ⟨b, off, none⟩) n cap) n (xs.flatMap encPick) :=
  ⟨_, _, rfl, by rw [flat_len encPick_len, hn], lst_src h, onePick xs⟩
set_option maxRecDepth 100000 in
set_option maxHeartbeats 1000000 in
theorem specWd (xs : List GPick) (v : Value) (w : World) (B : Nat) (h : PickL w B v xs) (hB : B ≤ w.heap.size) (hn : szsPick xs ≤ 1048576) (hw : ∀ s ∈ xs, wfPick s) :
    Calls Try.prog 31 #[v] w fun e w' => ∃ v', e = .returned (.tuple #[v', .bool (okWd xs)]) ∧ PickO w' w.heap.size w'.heap.size v' (resWd xs) ∧ Below w.heap.size w w' := by
  have hl := Nat.le_trans (szsPick_len xs) hn
  cases hg : goodP xs with
  | false =>
    have C := Lib.hid (specGoodP xs v false w B h hB hl hg)
    obtain ⟨e1, e2⟩ := wd_bad hg
    rw [e1, e2]
    clear e1 e2 hg
    obtain ⟨ao, cap, rfl⟩ := h.form
    go_enter Try.func31, Try.ntmps31
    go_wp2_with fail
    refine C.out.mono ?_
    rintro e w1 ⟨rfl, hb⟩
    go_wp2
    go_ret2
    exact ⟨_, rfl, ownK_empty encPick_len (by omega) _ 43 hb.size, hb.alloc hb.size _⟩
  | true =>
    have C := Lib.hid (specGoodP xs v true w B h hB hl hg)
    by_cases h0 : xs.length = 0
    case pos =>
      obtain ⟨e1, e2⟩ := wd_nil h0
      rw [e1, e2]
      have h0' : ((xs.length : Int) == 0) = true := by simp [h0]
      obtain ⟨ao, cap, rfl⟩ := h.form
      clear e1 e2 hg h0
      go_enter Try.func31, Try.ntmps31
      go_wp2_with fail
      refine C.out.mono ?_
      rintro e w1 ⟨rfl, hb⟩
      go_wp2
      go_ret2
      exact ⟨_, rfl, ownK_empty encPick_len (by omega) _ 43 hb.size, hb.alloc hb.size _⟩
    have hl12 := (goodP_yes hg).1
    obtain ⟨e1, e2⟩ := wd_yes hg (by omega)
    rw [e1, e2]
    clear e1 e2 hg
    have h0' : ¬ (xs.length : Int) = 0 := by omega
    have h1' : (0 : Int) ≤ (xs.length : Int) - 1 := by omega
    have HL := Lib.hid h
    obtain ⟨ao, cap, rfl, hcap, hmax, hnn, hc⟩ := h
    unfold maxLen at hmax
    obtain ⟨x0, hx0⟩ := get_of_lt (l := xs) (k := 0) (by omega)
    obtain ⟨b, off, rfl, hb', -⟩ := hc 0 x0 hx0
    clear hc hnn hx0
    go_enter Try.func31, Try.ntmps31
    go_wp2_with fail
    refine C.out.mono ?_
    rintro e w1 ⟨rfl, hb⟩
    have L1 := HL.out.below (hb.mono hB)
    have L2 := lst_take L1 (k := xs.length - 1) (by omega)
    have BO : Below w1.heap.size w1 (w1.alloc (.cells #[] 43)) := (Below.refl _ _).alloc (Nat.le_refl _) _
    have SRC := Lib.hid (src_of (L2.below (BO.mono (Nat.le_trans hB hb.size))) (by rw [List.length_take]; omega))
    have hrow := Lib.hid (rowK_empty w1 (base := w1.heap.size) 43 7 (Nat.le_refl _))
    have z1 := hb.size
    obtain ⟨ti, hi, hz0, hz1, hz2⟩ := info_parts info_Pick
    have e9 : ((xs.length : Int) - 1).toNat = xs.length - 1 := by omega
    have HTL : Hid ((xs.take (xs.length - 1)).length = xs.length - 1) := Lib.hid (by rw [List.length_take]; omega)
    clear L1 L2
    go_wp2_with (at_builtin; refine wpList_append_srcK _ rfl _ _ 24 rfl w1.heap.size 43 ti (.agg #[.int .i64 0, .int .i64 0, .int .i64 0, .int .i64 0, .int .i64 0, .int .i64 0, .int .i64 0]) 7 56 Try.underlying24 hi hz0 hz1 hz2 rfl (by decide) _ 0 [] rfl hrow.out _ (xs.length - 1) _ rfl SRC.out (by unfold maxLen; omega) (by omega) (by first | omega | (simp; done) | (simp; omega)) ?_; intro v' w2 hown hg hat)
    have BW : Below w1.heap.size w1 w2 := Below.grown BO hg (by first | omega | (simp; done) | (simp; omega)) (fun q hq => by cases hq; exact Nat.le_refl _)
    go_ret2
    refine ⟨_, rfl, ?_, hb.trans (BW.mono z1)⟩
    have ho : w2.ownsRow w1.heap.size 43 7 v' (xs.length - 1) ((xs.take (xs.length - 1)).flatMap encPick) := by simpa using hown
    exact (OwnK.of_row encPick_len (by omega) ho).mono z1 (Nat.le_refl _)
end Go.Proofs.Ytoimoaeaejbfdaa
