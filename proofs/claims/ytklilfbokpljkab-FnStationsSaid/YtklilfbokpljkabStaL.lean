/- Lists of valid stations: both programs ask the same. -/
import Derived.Test.YtklilfbokpljkabSqO
import Derived.Test.YtklilfbokpljkabStaG
import Derived.Lib.QuietBelow
import Derived.Deep.LoopGhost
namespace Go.Proofs.Ytklilfbokpljkab
open Go.ChangeShapes Go.WideShapes Go.ChangeAt Go.RowKit Go.ChangeMaps Go.Sort
set_option linter.unusedSimpArgs false
set_option linter.unusedVariables false

def apart (a b : GStation) : Prop := a.pId < b.pId ∧ a.pName ≠ b.pName ∧ ¬ (a.pX = b.pX ∧ a.pY = b.pY)
def uptoL (xs : List GStation) (k : Nat) : Prop := ∀ i s, xs[i]? = some s → i < k → goodS s = true ∧ ∀ j t, xs[j]? = some t → j < i → apart t s
noncomputable def goodL (xs : List GStation) : Bool := @decide (xs.length ≤ 10 ∧ uptoL xs xs.length) (Classical.propDecidable _)
theorem goodL_mk {xs : List GStation} (h : xs.length ≤ 10) (g : uptoL xs xs.length) : goodL xs = true := @decide_eq_true _ (Classical.propDecidable _) ⟨h, g⟩
theorem goodL_yes {xs : List GStation} (h : goodL xs = true) : xs.length ≤ 10 ∧ uptoL xs xs.length := @of_decide_eq_true _ (Classical.propDecidable _) h
theorem goodL_no {xs : List GStation} (h : ¬ (xs.length ≤ 10 ∧ uptoL xs xs.length)) : goodL xs = false := @decide_eq_false _ (Classical.propDecidable _) h
theorem goodL_big {xs : List GStation} (h : ¬ xs.length ≤ 10) : goodL xs = false := goodL_no fun g => h g.1
theorem goodL_bad {xs : List GStation} {i : Nat} {s : GStation} (hi : xs[i]? = some s) (h : goodS s = false) : goodL xs = false := goodL_no fun g => by
  have := (g.2 i s hi (List.getElem?_eq_some_iff.1 hi).1).1
  rw [h] at this; cases this
theorem goodL_pair {xs : List GStation} {i j : Nat} {s t : GStation} (hi : xs[i]? = some s) (hj : xs[j]? = some t) (hji : j < i) (h : ¬ apart t s) : goodL xs = false := goodL_no fun g =>
  h ((g.2 i s hi (List.getElem?_eq_some_iff.1 hi).1).2 j t hj hji)
def allA (xs : List GStation) (s : GStation) (m : Nat) : Prop := ∀ j t, xs[j]? = some t → j < m → apart t s
theorem allA_zero (xs : List GStation) (s : GStation) : allA xs s 0 := fun j t _ h => by omega
theorem allA_succ {xs : List GStation} {s t : GStation} {m : Nat} (h : allA xs s m) (ht : xs[m]? = some t) (g : apart t s) : allA xs s (m + 1) := fun j u hu hj => by
  by_cases e : j = m
  · subst e; rw [ht] at hu; cases hu; exact g
  · exact h j u hu (by omega)
theorem uptoL_zero (xs : List GStation) : uptoL xs 0 := fun i s _ h => by omega
theorem uptoL_succ {xs : List GStation} {s : GStation} {k : Nat} (h : uptoL xs k) (hs : xs[k]? = some s) (hg : goodS s = true) (ha : allA xs s k) : uptoL xs (k + 1) := fun i u hu hi => by
  by_cases e : i = k
  · subst e; rw [hs] at hu; cases hu; exact ⟨hg, fun j t ht hj => ha j t ht hj⟩
  · exact h i u hu (by omega)
theorem goodS_bounds {s : GStation} (h : goodS s = true) : 1 ≤ s.pId ∧ s.pId ≤ 99 ∧ 0 ≤ s.pX ∧ s.pX ≤ 999 ∧ 0 ≤ s.pY ∧ s.pY ≤ 999 ∧ 0 ≤ s.pUntil ∧ s.pUntil ≤ 1000000 ∧ 1 ≤ s.pGain ∧ s.pGain ≤ 10000 ∧ 1 ≤ s.pLow ∧ s.pLow ≤ 5000 ∧ 1 ≤ s.pHigh ∧ s.pHigh ≤ 5000 ∧ s.pLow < s.pHigh := by
  obtain ⟨h0, h1, h2, h3, h4, h5, h6, h7⟩ := goodS_yes h
  unfold plcB at h2
  rw [Bool.and_eq_true] at h2
  obtain ⟨h2, h2'⟩ := h2
  simp only [inB_iff] at *
  omega
/-- The square of a distance, of places on the map. -/
def sqd (a : GStation) (x y : Int) : Int := (a.pX - x) * (a.pX - x) + (a.pY - y) * (a.pY - y)
theorem sq_bound {d : Int} (h : -999 ≤ d ∧ d ≤ 999) : 0 ≤ d * d ∧ d * d ≤ 998001 := by
  have h1 : 0 ≤ (d + 999) * (999 - d) := Int.mul_nonneg (by omega) (by omega)
  have h2 : (d + 999) * (999 - d) = 998001 - d * d := by simp only [Int.add_mul, Int.mul_sub]; omega
  have h3 : 0 ≤ d * d := by
    rcases Int.le_total 0 d with h | h
    · exact Int.mul_nonneg h h
    · have := Int.mul_nonneg (show 0 ≤ -d by omega) (show 0 ≤ -d by omega)
      rwa [Int.neg_mul_neg] at this
  omega
theorem sq_zero {d : Int} (h : d * d = 0) : d = 0 := by
  rcases Int.mul_eq_zero.1 h with h | h <;> exact h

set_option maxHeartbeats 400000 in
theorem implSq (s : GStation) (x y : Int) (w : World) (h1 : 0 ≤ s.pX ∧ s.pX ≤ 999) (h2 : 0 ≤ s.pY ∧ s.pY ≤ 999) (h3 : 0 ≤ x ∧ x ≤ 999) (h4 : 0 ≤ y ∧ y ≤ 999) :
    Calls Try.prog 102 #[.agg #[.int .i64 s.pId, .string s.pName, .int .i64 s.pX, .int .i64 s.pY, .int .i64 s.pGain, .int .i64 s.pLow, .int .i64 s.pHigh, .int .i64 s.pUntil], .int .i64 x, .int .i64 y] w fun e w' => e = .returned (.int .i64 (sqd s x y)) ∧ Below w.heap.size w w' := by
  obtain ⟨h1, h1'⟩ := h1
  obtain ⟨h2, h2'⟩ := h2
  obtain ⟨h3, h3'⟩ := h3
  obtain ⟨h4, h4'⟩ := h4
  have b1 := sq_bound (d := s.pX - x) (by omega)
  have b2 := sq_bound (d := s.pY - y) (by omega)
  have CQ := Lib.hid (fun W => implSqOf (s.pX - x) (s.pY - y) _ W (by omega) (by omega) rfl)
  unfold sqd
  generalize (s.pX - x) * (s.pX - x) + (s.pY - y) * (s.pY - y) = r at *
  go_enter Try.func102, Try.ntmps102
  go_wp2_with fail
  refine (CQ.out _).mono ?_
  rintro e w1 ⟨rfl, q1⟩
  subst q1
  go_wp2
  go_ret
  exact ⟨rfl, (Below.refl _ _).alloc (Nat.le_refl _) _⟩

set_option maxRecDepth 100000 in
set_option maxHeartbeats 4000000 in
theorem implAre (xs : List GStation) (v : Value) (w : World) (B : Nat) (h : StationL w B v xs) (hB : B ≤ w.heap.size) (_ : szsStation xs ≤ 1048576) (hw : ∀ s ∈ xs, wfStation s) :
    Calls Try.prog 67 #[v] w fun e w' => e = .returned (.bool (goodL xs)) ∧ Below w.heap.size w w' := by
  obtain ⟨ao, cap, rfl, hcap, hmax, hnn, hc⟩ := h
  unfold maxLen at hmax
  by_cases hbig : xs.length ≤ 10
  case neg =>
    have HG := Lib.hid (goodL_big hbig)
    have hbig' : (10 : Int) < xs.length := by omega
    go_enter Try.func67, Try.ntmps67
    go_wp2
    go_ret
    exact ⟨ret_bool HG.out.symm, Below.refl _ _⟩
  have HW := Lib.hid hw
  clear hw
  have HC := Lib.hid hc
  have HN := Lib.hid hnn
  clear hc hnn
  go_enter Try.func67, Try.ntmps67
  go_wp2
  go_loopw [12] (fun i wr => ∃ k : Nat, k ≤ xs.length ∧ i = .int .i64 k ∧ Hid (uptoL xs k) ∧ Below w.heap.size w wr)
    (fun i _ => xs.length - (intOf i).toNat)
  case atStart => exact ⟨0, Nat.zero_le _, rfl, Lib.hid (uptoL_zero xs), Below.refl _ _⟩
  case round =>
    obtain ⟨k, hk, rfl, HU, hbl⟩ := hrel
    have hsz := hbl.size
    by_cases hlt : k < xs.length
    case neg =>
      obtain rfl : k = xs.length := by omega
      have HG := Lib.hid (goodL_mk hbig HU.out)
      go_wp2
      go_ret
      exact ⟨ret_bool HG.out.symm, hbl⟩
    obtain ⟨s, hs⟩ := get_of_lt hlt
    obtain ⟨b, off, rfl, hb, hcell⟩ := HC.out k s hs
    have hw := HW.out s (List.mem_of_getElem? hs)
    have c0 : wr.cell? ⟨b, off + k * 8, none⟩ = some (.int .i64 s.pId) := cellOf hbl (by omega) (hcell 0 _ rfl)
    have c1 : wr.cell? ⟨b, off + k * 8 + 1, none⟩ = some (.string s.pName) := cellOf hbl (by omega) (hcell 1 _ rfl)
    have c2 : wr.cell? ⟨b, off + k * 8 + 2, none⟩ = some (.int .i64 s.pX) := cellOf hbl (by omega) (hcell 2 _ rfl)
    have c3 : wr.cell? ⟨b, off + k * 8 + 3, none⟩ = some (.int .i64 s.pY) := cellOf hbl (by omega) (hcell 3 _ rfl)
    have c4 : wr.cell? ⟨b, off + k * 8 + 4, none⟩ = some (.int .i64 s.pGain) := cellOf hbl (by omega) (hcell 4 _ rfl)
    have c5 : wr.cell? ⟨b, off + k * 8 + 5, none⟩ = some (.int .i64 s.pLow) := cellOf hbl (by omega) (hcell 5 _ rfl)
    have c6 : wr.cell? ⟨b, off + k * 8 + 6, none⟩ = some (.int .i64 s.pHigh) := cellOf hbl (by omega) (hcell 6 _ rfl)
    have c7 : wr.cell? ⟨b, off + k * 8 + 7, none⟩ = some (.int .i64 s.pUntil) := cellOf hbl (by omega) (hcell 7 _ rfl)
    have HS := Lib.hid hs
    have HWs := Lib.hid hw
    clear hs hw hcell
    have N1 := (Below.refl wr.heap.size wr).alloc (Nat.le_refl _) (.cells #[.int .i64 s.pId, .string s.pName, .int .i64 s.pX, .int .i64 s.pY, .int .i64 s.pGain, .int .i64 s.pLow, .int .i64 s.pHigh, .int .i64 s.pUntil] 60)
    have bx := Bx.new wr [.int .i64 s.pId, .string s.pName, .int .i64 s.pX, .int .i64 s.pY, .int .i64 s.pGain, .int .i64 s.pLow, .int .i64 s.pHigh, .int .i64 s.pUntil] 60
    by_cases hg : goodS s = true
    case neg =>
      have HB := Lib.hid (goodL_bad HS.out (bool_f hg))
      have HG := Lib.hid (bool_f hg)
      clear hg
      go_wp2_with fail
      refine (implOne s HWs.out false _ HG.out).mono ?_
      rintro e w1 ⟨rfl, hb1⟩
      go_wp2
      go_ret
      exact ⟨ret_bool HB.out.symm, hbl.trans ((N1.trans (hb1.mono (by simp))).mono hsz)⟩
    have HG := Lib.hid hg
    have gb := goodS_bounds hg
    clear hg
    go_wp2_with fail
    refine (implOne s HWs.out true _ HG.out).mono ?_
    rintro e w1 ⟨rfl, hb1⟩
    have C1 := hbl.trans ((N1.trans (hb1.mono (by simp))).mono hsz)
    have bx1 := bx.below hb1
    have z1 : wr.heap.size + 1 ≤ w1.heap.size := by have := hb1.size; simpa using this
    generalize hB0 : wr.heap.size = B0 at *
    clear hb1 bx N1 hB0 c0 c1 c2 c3 c4 c5 c6 c7 hbl
    go_wp2
    go_loopw [24] (fun i wi => ∃ m : Nat, m ≤ k ∧ i = .int .i64 m ∧ Hid (allA xs s m) ∧ Below w1.heap.size w1 wi)
      (fun i _ => k - (intOf i).toNat)
    case atStart => exact ⟨0, Nat.zero_le _, rfl, Lib.hid (allA_zero xs s), Below.refl _ _⟩
    case round =>
      obtain ⟨m, hm, rfl, HA, hbi⟩ := hrel
      have hszi := hbi.size
      by_cases hmk : m < k
      case neg =>
        obtain rfl : m = k := by omega
        have HU2 := Lib.hid (uptoL_succ HU.out HS.out HG.out HA.out)
        go_wp2
        go_roundw
        case rel => exact ⟨m + 1, by omega, by go_num, HU2, C1.trans (hbi.mono (by omega))⟩
        case measure => simp [intOf]; omega
      obtain ⟨t, ht⟩ := get_of_lt (l := xs) (k := m) (by omega)
      obtain ⟨b', off', e1, -, htc⟩ := HC.out m t ht
      simp only [Option.some.injEq, Addr.mk.injEq, and_true] at e1
      obtain ⟨rfl, rfl⟩ := e1
      have CI : Below w.heap.size w wr := C1.trans (hbi.mono (by omega))
      have tb := goodS_bounds ((HU.out m t ht hmk).1)
      have t0 : wr.cell? ⟨b, off + m * 8, none⟩ = some (.int .i64 t.pId) := cellOf CI (by omega) (htc 0 _ rfl)
      have t1 : wr.cell? ⟨b, off + m * 8 + 1, none⟩ = some (.string t.pName) := cellOf CI (by omega) (htc 1 _ rfl)
      have t2 : wr.cell? ⟨b, off + m * 8 + 2, none⟩ = some (.int .i64 t.pX) := cellOf CI (by omega) (htc 2 _ rfl)
      have t3 : wr.cell? ⟨b, off + m * 8 + 3, none⟩ = some (.int .i64 t.pY) := cellOf CI (by omega) (htc 3 _ rfl)
      have t4 : wr.cell? ⟨b, off + m * 8 + 4, none⟩ = some (.int .i64 t.pGain) := cellOf CI (by omega) (htc 4 _ rfl)
      have t5 : wr.cell? ⟨b, off + m * 8 + 5, none⟩ = some (.int .i64 t.pLow) := cellOf CI (by omega) (htc 5 _ rfl)
      have t6 : wr.cell? ⟨b, off + m * 8 + 6, none⟩ = some (.int .i64 t.pHigh) := cellOf CI (by omega) (htc 6 _ rfl)
      have t7 : wr.cell? ⟨b, off + m * 8 + 7, none⟩ = some (.int .i64 t.pUntil) := cellOf CI (by omega) (htc 7 _ rfl)
      have HT := Lib.hid ht
      clear ht htc
      have bxi := bx1.below hbi
      have d0 := bxi.2 0 _ rfl
      have d1 := bxi.2 1 _ rfl
      have d2 := bxi.2 2 _ rfl
      have d3 := bxi.2 3 _ rfl
      have d4 := bxi.2 4 _ rfl
      have d5 := bxi.2 5 _ rfl
      have d6 := bxi.2 6 _ rfl
      have d7 := bxi.2 7 _ rfl
      have hB0 : B0 < wr.heap.size := by omega
      have NT := (Below.refl wr.heap.size wr).alloc (Nat.le_refl _) (.cells #[.int .i64 t.pId, .string t.pName, .int .i64 t.pX, .int .i64 t.pY, .int .i64 t.pGain, .int .i64 t.pLow, .int .i64 t.pHigh, .int .i64 t.pUntil] 60)
      by_cases h1 : t.pId < s.pId
      case neg =>
        have HP := Lib.hid (goodL_pair HS.out HT.out hmk (fun g => h1 g.1))
        go_wp2
        go_ret
        exact ⟨ret_bool HP.out.symm, CI.trans (NT.mono (by omega))⟩
      by_cases h2 : t.pName = s.pName
      case pos =>
        have HP := Lib.hid (goodL_pair HS.out HT.out hmk (fun g => g.2.1 h2))
        have h2' : (t.pName.toList == s.pName.toList) = true := by simp [h2]
        clear h2
        go_wp2
        go_ret
        exact ⟨ret_bool HP.out.symm, CI.trans (NT.mono (by omega))⟩
      have h2' := str_ne h2
      have H2 := Lib.hid h2
      clear h2
      by_cases h3 : t.pX = s.pX ∧ t.pY = s.pY
      case pos =>
        have HP := Lib.hid (goodL_pair HS.out HT.out hmk (fun g => g.2.2 h3))
        have HQ := Lib.hid (show sqd t s.pX s.pY = 0 by unfold sqd; rw [h3.1, h3.2]; simp)
        clear h3
        go_wp2_with fail
        refine (implSq t s.pX s.pY _ (by omega) (by omega) (by omega) (by omega)).mono ?_
        rintro e w2 ⟨rfl, hb2⟩
        rw [HQ.out]
        go_wp2
        go_ret
        exact ⟨ret_bool HP.out.symm, CI.trans ((NT.trans (hb2.mono (by simp))).mono (by omega))⟩
      have HA2 := Lib.hid (allA_succ HA.out HT.out ⟨h1, H2.out, h3⟩)
      have hq0 : (sqd t s.pX s.pY == 0) = false := by
        rw [beq_eq_false_iff_ne]
        intro e
        unfold sqd at e
        have e1 := sq_bound (d := t.pX - s.pX) (by omega)
        have e2 := sq_bound (d := t.pY - s.pY) (by omega)
        exact h3 ⟨by have := sq_zero (d := t.pX - s.pX) (by omega); omega, by have := sq_zero (d := t.pY - s.pY) (by omega); omega⟩
      clear h3
      go_wp2_with fail
      refine (implSq t s.pX s.pY _ (by omega) (by omega) (by omega) (by omega)).mono ?_
      rintro e w2 ⟨rfl, hb2⟩
      generalize sqd t s.pX s.pY = sq at *
      go_wp2
      go_roundw
      case rel => exact ⟨m + 1, by omega, by go_num, HA2, hbi.trans ((NT.trans (hb2.mono (by simp))).mono (by omega))⟩
      case measure => simp [intOf]; omega

def allN (xs : List GStation) (s : GStation) (m : Nat) : Prop := ∀ j t, xs[j]? = some t → j < m → t.pName ≠ s.pName ∧ ¬ (t.pX = s.pX ∧ t.pY = s.pY)
theorem allN_zero (xs : List GStation) (s : GStation) : allN xs s 0 := fun j t _ h => by omega
theorem allN_succ {xs : List GStation} {s t : GStation} {m : Nat} (h : allN xs s m) (ht : xs[m]? = some t) (g : t.pName ≠ s.pName ∧ ¬ (t.pX = s.pX ∧ t.pY = s.pY)) : allN xs s (m + 1) := fun j u hu hj => by
  by_cases e : j = m
  · subst e; rw [ht] at hu; cases hu; exact g
  · exact h j u hu (by omega)
def idUp (xs : List GStation) (s : GStation) (k : Nat) : Prop := ∀ t, xs[k - 1]? = some t → 0 < k → t.pId < s.pId
theorem allA_of {xs : List GStation} {s : GStation} {k : Nat} (h : uptoL xs k) (hk : k ≤ xs.length) (hi : idUp xs s k) (hn : allN xs s k) : allA xs s k := fun j u hu hj => by
  obtain ⟨t, ht⟩ := get_of_lt (l := xs) (k := k - 1) (by omega)
  have h1 := hi t ht (by omega)
  refine ⟨?_, (hn j u hu hj).1, (hn j u hu hj).2⟩
  by_cases e : j = k - 1
  · subst e; rw [ht] at hu; cases hu; exact h1
  · have := ((h (k - 1) t ht (by omega)).2 j u hu (by omega)).1
    omega

set_option maxRecDepth 100000 in
set_option maxHeartbeats 4000000 in
theorem specGoodL (xs : List GStation) (v : Value) (w : World) (B : Nat) (h : StationL w B v xs) (hB : B ≤ w.heap.size) (_ : szsStation xs ≤ 1048576) (hw : ∀ s ∈ xs, wfStation s) :
    Calls Try.prog 103 #[v] w fun e w' => e = .returned (.bool (goodL xs)) ∧ Below w.heap.size w w' := by
  obtain ⟨ao, cap, rfl, hcap, hmax, hnn, hc⟩ := h
  unfold maxLen at hmax
  have HW := Lib.hid hw
  clear hw
  have HC := Lib.hid hc
  have HN := Lib.hid hnn
  clear hc hnn
  go_enter Try.func103, Try.ntmps103
  go_wp2
  go_loopw [3] (fun i wr => ∃ k : Nat, k ≤ xs.length ∧ k ≤ 11 ∧ i = .int .i64 k ∧ Hid (uptoL xs k) ∧ Below w.heap.size w wr)
    (fun i _ => xs.length - (intOf i).toNat)
  case atStart => exact ⟨0, Nat.zero_le _, by omega, rfl, Lib.hid (uptoL_zero xs), Below.refl _ _⟩
  case round =>
    obtain ⟨k, hk, hk11, rfl, HU, hbl⟩ := hrel
    have hsz := hbl.size
    by_cases hlt : k < xs.length
    case neg =>
      obtain rfl : k = xs.length := by omega
      by_cases h10 : xs.length ≤ 10
      · have HG := Lib.hid (goodL_mk h10 HU.out)
        go_wp2
        go_ret
        exact ⟨ret_bool (by rw [HG.out]; simp; omega), hbl⟩
      · have HG := Lib.hid (goodL_big h10)
        go_wp2
        go_ret
        exact ⟨ret_bool (by rw [HG.out]; simp; omega), hbl⟩
    by_cases h10 : k ≤ 10
    case neg =>
      have HG := Lib.hid (goodL_big (xs := xs) (by omega))
      go_wp2
      go_ret
      exact ⟨ret_bool (by rw [HG.out]; simp; omega), hbl⟩
    obtain ⟨s, hs⟩ := get_of_lt hlt
    obtain ⟨b, off, rfl, hb, hcell⟩ := HC.out k s hs
    have hw := HW.out s (List.mem_of_getElem? hs)
    have c0 : wr.cell? ⟨b, off + k * 8, none⟩ = some (.int .i64 s.pId) := cellOf hbl (by omega) (hcell 0 _ rfl)
    have c1 : wr.cell? ⟨b, off + k * 8 + 1, none⟩ = some (.string s.pName) := cellOf hbl (by omega) (hcell 1 _ rfl)
    have c2 : wr.cell? ⟨b, off + k * 8 + 2, none⟩ = some (.int .i64 s.pX) := cellOf hbl (by omega) (hcell 2 _ rfl)
    have c3 : wr.cell? ⟨b, off + k * 8 + 3, none⟩ = some (.int .i64 s.pY) := cellOf hbl (by omega) (hcell 3 _ rfl)
    have c4 : wr.cell? ⟨b, off + k * 8 + 4, none⟩ = some (.int .i64 s.pGain) := cellOf hbl (by omega) (hcell 4 _ rfl)
    have c5 : wr.cell? ⟨b, off + k * 8 + 5, none⟩ = some (.int .i64 s.pLow) := cellOf hbl (by omega) (hcell 5 _ rfl)
    have c6 : wr.cell? ⟨b, off + k * 8 + 6, none⟩ = some (.int .i64 s.pHigh) := cellOf hbl (by omega) (hcell 6 _ rfl)
    have c7 : wr.cell? ⟨b, off + k * 8 + 7, none⟩ = some (.int .i64 s.pUntil) := cellOf hbl (by omega) (hcell 7 _ rfl)
    have HS := Lib.hid hs
    have HWs := Lib.hid hw
    clear hs hw hcell
    have N1 := (Below.refl wr.heap.size wr).alloc (Nat.le_refl _) (.cells #[.int .i64 s.pId, .string s.pName, .int .i64 s.pX, .int .i64 s.pY, .int .i64 s.pGain, .int .i64 s.pLow, .int .i64 s.pHigh, .int .i64 s.pUntil] 60)
    have bx := Bx.new wr [.int .i64 s.pId, .string s.pName, .int .i64 s.pX, .int .i64 s.pY, .int .i64 s.pGain, .int .i64 s.pLow, .int .i64 s.pHigh, .int .i64 s.pUntil] 60
    have h10' : (k : Int) ≤ 10 := by omega
    have Q0 := bx.2 0 _ rfl
    have Q1 := bx.2 1 _ rfl
    have Q2 := bx.2 2 _ rfl
    have Q3 := bx.2 3 _ rfl
    have Q4 := bx.2 4 _ rfl
    have Q5 := bx.2 5 _ rfl
    have Q6 := bx.2 6 _ rfl
    have Q7 := bx.2 7 _ rfl
    by_cases hg : goodS s = true
    case neg =>
      have HB := Lib.hid (goodL_bad HS.out (bool_f hg))
      have HG := Lib.hid (bool_f hg)
      clear hg
      have cc : ∀ d os, Calls Try.prog 90 #[.agg #[.int .i64 s.pId, .string s.pName, .int .i64 s.pX, .int .i64 s.pY, .int .i64 s.pGain, .int .i64 s.pLow, .int .i64 s.pHigh, .int .i64 s.pUntil]] (grow (redrawn (wr.alloc (.cells #[.int .i64 s.pId, .string s.pName, .int .i64 s.pX, .int .i64 s.pY, .int .i64 s.pGain, .int .i64 s.pLow, .int .i64 s.pHigh, .int .i64 s.pUntil] 60)) d) os) fun e w'' => e = .returned (.bool false) ∧ ∃ p : Regrown, w'' = grow (redrawn (wr.alloc (.cells #[.int .i64 s.pId, .string s.pName, .int .i64 s.pX, .int .i64 s.pY, .int .i64 s.pGain, .int .i64 s.pLow, .int .i64 s.pHigh, .int .i64 s.pUntil] 60)) p.d) p.os := fun d os => Calls.regrown_of (specOne s HWs.out false _ HG.out)
      have r0 := cell_regrown Q0
      have r1 := cell_regrown Q1
      have r2 := cell_regrown Q2
      have r3 := cell_regrown Q3
      have r4 := cell_regrown Q4
      have r5 := cell_regrown Q5
      have r6 := cell_regrown Q6
      have r7 := cell_regrown Q7
      go_wp2
      refine wp_region_quiet_below (by kernel_rfl) (by kernel_rfl) ?_
      repeat (go_big_quiet_step (exact cc _ _))
      refine wpQuiet_nil ?_
      intro _ hw'
      obtain ⟨⟨dq, osq⟩, hw''⟩ := hw'
      subst hw''
      have hb1 := below_regrown (wr.alloc (.cells #[.int .i64 s.pId, .string s.pName, .int .i64 s.pX, .int .i64 s.pY, .int .i64 s.pGain, .int .i64 s.pLow, .int .i64 s.pHigh, .int .i64 s.pUntil] 60)) dq osq
      generalize grow (redrawn (wr.alloc (.cells #[.int .i64 s.pId, .string s.pName, .int .i64 s.pX, .int .i64 s.pY, .int .i64 s.pGain, .int .i64 s.pLow, .int .i64 s.pHigh, .int .i64 s.pUntil] 60)) dq) osq = w1 at *
      go_wp2
      go_ret
      exact ⟨ret_bool HB.out.symm, hbl.trans ((N1.trans (hb1.mono (by simp))).mono hsz)⟩
    have HG := Lib.hid hg
    clear hg
    have cc : ∀ d os, Calls Try.prog 90 #[.agg #[.int .i64 s.pId, .string s.pName, .int .i64 s.pX, .int .i64 s.pY, .int .i64 s.pGain, .int .i64 s.pLow, .int .i64 s.pHigh, .int .i64 s.pUntil]] (grow (redrawn (wr.alloc (.cells #[.int .i64 s.pId, .string s.pName, .int .i64 s.pX, .int .i64 s.pY, .int .i64 s.pGain, .int .i64 s.pLow, .int .i64 s.pHigh, .int .i64 s.pUntil] 60)) d) os) fun e w'' => e = .returned (.bool true) ∧ ∃ p : Regrown, w'' = grow (redrawn (wr.alloc (.cells #[.int .i64 s.pId, .string s.pName, .int .i64 s.pX, .int .i64 s.pY, .int .i64 s.pGain, .int .i64 s.pLow, .int .i64 s.pHigh, .int .i64 s.pUntil] 60)) p.d) p.os := fun d os => Calls.regrown_of (specOne s HWs.out true _ HG.out)
    have r0 := cell_regrown Q0
    have r1 := cell_regrown Q1
    have r2 := cell_regrown Q2
    have r3 := cell_regrown Q3
    have r4 := cell_regrown Q4
    have r5 := cell_regrown Q5
    have r6 := cell_regrown Q6
    have r7 := cell_regrown Q7
    by_cases hk0 : k = 0
    case pos =>
      have HI : Hid (idUp xs s k) := Lib.hid (fun t ht hk => by omega)
      have hk1 : ¬ (0 : Int) < (k : Int) := by omega
      have hk2 : decide ((0 : Int) < (k : Int)) = false := by simpa using hk0
      have hk3 : decide (0 < k) = false := by simpa using hk0
      have hk4 : ¬ 0 < k := by omega
      clear hk0
      go_wp2
      refine wp_region_quiet_below (by kernel_rfl) (by kernel_rfl) ?_
      repeat (go_big_quiet_step (exact cc _ _))
      refine wpQuiet_nil ?_
      intro _ hw'
      obtain ⟨⟨dq, osq⟩, hw''⟩ := hw'
      subst hw''
      have hb1 := below_regrown (wr.alloc (.cells #[.int .i64 s.pId, .string s.pName, .int .i64 s.pX, .int .i64 s.pY, .int .i64 s.pGain, .int .i64 s.pLow, .int .i64 s.pHigh, .int .i64 s.pUntil] 60)) dq osq
      generalize grow (redrawn (wr.alloc (.cells #[.int .i64 s.pId, .string s.pName, .int .i64 s.pX, .int .i64 s.pY, .int .i64 s.pGain, .int .i64 s.pLow, .int .i64 s.pHigh, .int .i64 s.pUntil] 60)) dq) osq = w1 at *
      clear hk1 hk2 hk3 hk4
      have C1 := hbl.trans ((N1.trans (hb1.mono (by simp))).mono hsz)
      have bx1 := bx.below hb1
      have z1 : wr.heap.size + 1 ≤ w1.heap.size := by have := hb1.size; simpa using this
      clear Q0 Q1 Q2 Q3 Q4 Q5 Q6 Q7 r0 r1 r2 r3 r4 r5 r6 r7 cc
      generalize hB0 : wr.heap.size = B0 at *
      clear hb1 bx N1 hB0 c0 c1 c2 c3 c4 c5 c6 c7 hbl
      go_wp2
      go_loopw [5] (fun i wi => ∃ m : Nat, m ≤ k ∧ i = .int .i64 m ∧ Hid (allN xs s m) ∧ Below w1.heap.size w1 wi)
        (fun i _ => k - (intOf i).toNat)
      case atStart => exact ⟨0, Nat.zero_le _, rfl, Lib.hid (allN_zero xs s), Below.refl _ _⟩
      case round =>
        obtain ⟨m, hm, rfl, HA, hbi⟩ := hrel
        have hszi := hbi.size
        have CI : Below w.heap.size w wr := C1.trans (hbi.mono (by omega))
        by_cases hmk : m < k
        case neg =>
          obtain rfl : m = k := by omega
          have HU2 := Lib.hid (uptoL_succ HU.out HS.out HG.out (allA_of HU.out hk HI.out HA.out))
          go_wp2
          go_roundw
          case rel => exact ⟨m + 1, by omega, by omega, by go_num, HU2, CI⟩
          case measure => simp [intOf]; omega
        obtain ⟨t, ht⟩ := get_of_lt (l := xs) (k := m) (by omega)
        obtain ⟨b', off', e1, -, htc⟩ := HC.out m t ht
        simp only [Option.some.injEq, Addr.mk.injEq, and_true] at e1
        obtain ⟨rfl, rfl⟩ := e1
        have t1 : wr.cell? ⟨b, off + m * 8 + 1, none⟩ = some (.string t.pName) := cellOf CI (by omega) (htc 1 _ rfl)
        have t2 : wr.cell? ⟨b, off + m * 8 + 2, none⟩ = some (.int .i64 t.pX) := cellOf CI (by omega) (htc 2 _ rfl)
        have t3 : wr.cell? ⟨b, off + m * 8 + 3, none⟩ = some (.int .i64 t.pY) := cellOf CI (by omega) (htc 3 _ rfl)
        have HT := Lib.hid ht
        clear ht htc
        have bxi := bx1.below hbi
        have d1 := bxi.2 1 _ rfl
        have d2 := bxi.2 2 _ rfl
        have d3 := bxi.2 3 _ rfl
        have hB0 : B0 < wr.heap.size := by omega
        have hm0 : (0 : Int) ≤ (m : Int) := by omega
        have hm1 : (m : Int) < (xs.length : Int) := by omega
        by_cases h2 : t.pName = s.pName
        case pos =>
          have HP := Lib.hid (goodL_pair HS.out HT.out hmk (fun g => g.2.1 h2))
          have h2' : (t.pName.toList == s.pName.toList) = true := by simp [h2]
          clear h2
          go_wp2
          go_quiet (fail)
          go_wp2
          go_ret
          exact ⟨ret_bool HP.out.symm, drewN_b CI _⟩
        have h2' := str_ne h2
        have H2 := Lib.hid h2
        clear h2
        by_cases h3 : t.pX = s.pX
        · have h3' : (t.pX == s.pX) = true := by simp [h3]
          by_cases h4 : t.pY = s.pY
          · have h4' : (t.pY == s.pY) = true := by simp [h4]
            have HP := Lib.hid (goodL_pair HS.out HT.out hmk (fun g => g.2.2 ⟨h3, h4⟩))
            clear h3 h4
            go_wp2
            go_quiet (fail)
            go_wp2
            go_ret
            exact ⟨ret_bool HP.out.symm, drewN_b CI _⟩
          · have h4' : (t.pY == s.pY) = false := by simpa using h4
            have HA2 := Lib.hid (allN_succ HA.out HT.out ⟨H2.out, fun g => h4 g.2⟩)
            clear h3 h4
            go_wp2
            go_quiet (fail)
            go_wp2
            go_roundw
            case rel => exact ⟨m + 1, by omega, by go_num, HA2, drewN_b hbi _⟩
            case measure => simp [intOf]; omega
        · have h3' : (t.pX == s.pX) = false := by simpa using h3
          have HA2 := Lib.hid (allN_succ HA.out HT.out ⟨H2.out, fun g => h3 g.1⟩)
          clear h3
          go_wp2
          go_quiet (fail)
          go_wp2
          go_roundw
          case rel => exact ⟨m + 1, by omega, by go_num, HA2, drewN_b hbi _⟩
          case measure => simp [intOf]; omega
    obtain ⟨j0, rfl⟩ : ∃ j0, k = j0 + 1 := ⟨k - 1, by omega⟩
    clear hk0
    obtain ⟨p, hp⟩ := get_of_lt (l := xs) (k := j0) (by omega)
    obtain ⟨b', off', e1, -, hpc⟩ := HC.out j0 p hp
    simp only [Option.some.injEq, Addr.mk.injEq, and_true] at e1
    obtain ⟨rfl, rfl⟩ := e1
    have p0 : wr.cell? ⟨b, off + j0 * 8, none⟩ = some (.int .i64 p.pId) := cellOf hbl (by omega) (hpc 0 _ rfl)
    have p1 : (wr.alloc (.cells #[.int .i64 s.pId, .string s.pName, .int .i64 s.pX, .int .i64 s.pY, .int .i64 s.pGain, .int .i64 s.pLow, .int .i64 s.pHigh, .int .i64 s.pUntil] 60)).cell? ⟨b, off + j0 * 8, none⟩ = some (.int .i64 p.pId) := cellOf N1 (by omega) p0
    have rp := cell_regrown p1
    have HP0 := Lib.hid hp
    clear hp hpc p0
    have hj0 : (0 : Int) ≤ (j0 : Int) := by omega
    have hj1 : (j0 : Int) < (xs.length : Int) := by omega
    have hj2 : (0 : Int) < (j0 : Int) + 1 := by omega
    by_cases hid : p.pId < s.pId
    case neg =>
      have HB := Lib.hid (goodL_pair HS.out HP0.out (by omega) (fun g => hid g.1))
      go_wp2
      refine wp_region_quiet_below (by kernel_rfl) (by kernel_rfl) ?_
      repeat (go_big_quiet_step (exact cc _ _))
      refine wpQuiet_nil ?_
      intro _ hw'
      obtain ⟨⟨dq, osq⟩, hw''⟩ := hw'
      subst hw''
      have hb1 := below_regrown (wr.alloc (.cells #[.int .i64 s.pId, .string s.pName, .int .i64 s.pX, .int .i64 s.pY, .int .i64 s.pGain, .int .i64 s.pLow, .int .i64 s.pHigh, .int .i64 s.pUntil] 60)) dq osq
      generalize grow (redrawn (wr.alloc (.cells #[.int .i64 s.pId, .string s.pName, .int .i64 s.pX, .int .i64 s.pY, .int .i64 s.pGain, .int .i64 s.pLow, .int .i64 s.pHigh, .int .i64 s.pUntil] 60)) dq) osq = w1 at *
      go_wp2
      go_ret
      exact ⟨ret_bool HB.out.symm, hbl.trans ((N1.trans (hb1.mono (by simp))).mono hsz)⟩
    have HI : Hid (idUp xs s (j0 + 1)) := Lib.hid (fun t ht _ => by
      simp only [Nat.add_sub_cancel] at ht
      rw [HP0.out] at ht; cases ht; exact hid)
    go_wp2
    refine wp_region_quiet_below (by kernel_rfl) (by kernel_rfl) ?_
    repeat (go_big_quiet_step (exact cc _ _))
    refine wpQuiet_nil ?_
    intro _ hw'
    obtain ⟨⟨dq, osq⟩, hw''⟩ := hw'
    subst hw''
    have hb1 := below_regrown (wr.alloc (.cells #[.int .i64 s.pId, .string s.pName, .int .i64 s.pX, .int .i64 s.pY, .int .i64 s.pGain, .int .i64 s.pLow, .int .i64 s.pHigh, .int .i64 s.pUntil] 60)) dq osq
    generalize grow (redrawn (wr.alloc (.cells #[.int .i64 s.pId, .string s.pName, .int .i64 s.pX, .int .i64 s.pY, .int .i64 s.pGain, .int .i64 s.pLow, .int .i64 s.pHigh, .int .i64 s.pUntil] 60)) dq) osq = w1 at *
    clear rp p1
    have hkk : (((j0 + 1 : Nat)) : Int) = (j0 : Int) + 1 := by omega
    have HKK := Lib.hid hkk
    clear hkk hj2
    have C1 := hbl.trans ((N1.trans (hb1.mono (by simp))).mono hsz)
    have bx1 := bx.below hb1
    have z1 : wr.heap.size + 1 ≤ w1.heap.size := by have := hb1.size; simpa using this
    clear Q0 Q1 Q2 Q3 Q4 Q5 Q6 Q7 r0 r1 r2 r3 r4 r5 r6 r7 cc
    generalize hB0 : wr.heap.size = B0 at *
    clear hb1 bx N1 hB0 c0 c1 c2 c3 c4 c5 c6 c7 hbl
    go_wp2
    go_loopw [5] (fun i wi => ∃ m : Nat, m ≤ j0 + 1 ∧ i = .int .i64 m ∧ Hid (allN xs s m) ∧ Below w1.heap.size w1 wi)
      (fun i _ => (j0 + 1) - (intOf i).toNat)
    case atStart => exact ⟨0, Nat.zero_le _, rfl, Lib.hid (allN_zero xs s), Below.refl _ _⟩
    case round =>
      obtain ⟨m, hm, rfl, HA, hbi⟩ := hrel
      have hszi := hbi.size
      have CI : Below w.heap.size w wr := C1.trans (hbi.mono (by omega))
      by_cases hmk : m < j0 + 1
      case neg =>
        obtain rfl : m = j0 + 1 := by omega
        have HU2 := Lib.hid (uptoL_succ HU.out HS.out HG.out (allA_of HU.out hk HI.out HA.out))
        go_wp2
        go_roundw
        case rel => exact ⟨j0 + 1 + 1, by omega, by omega, by go_num, HU2, CI⟩
        case measure => simp [intOf]; omega
      obtain ⟨t, ht⟩ := get_of_lt (l := xs) (k := m) (by omega)
      obtain ⟨b', off', e1, -, htc⟩ := HC.out m t ht
      simp only [Option.some.injEq, Addr.mk.injEq, and_true] at e1
      obtain ⟨rfl, rfl⟩ := e1
      have t1 : wr.cell? ⟨b, off + m * 8 + 1, none⟩ = some (.string t.pName) := cellOf CI (by omega) (htc 1 _ rfl)
      have t2 : wr.cell? ⟨b, off + m * 8 + 2, none⟩ = some (.int .i64 t.pX) := cellOf CI (by omega) (htc 2 _ rfl)
      have t3 : wr.cell? ⟨b, off + m * 8 + 3, none⟩ = some (.int .i64 t.pY) := cellOf CI (by omega) (htc 3 _ rfl)
      have HT := Lib.hid ht
      clear ht htc
      have bxi := bx1.below hbi
      have d1 := bxi.2 1 _ rfl
      have d2 := bxi.2 2 _ rfl
      have d3 := bxi.2 3 _ rfl
      have hB0 : B0 < wr.heap.size := by omega
      have hm0 : (0 : Int) ≤ (m : Int) := by omega
      have hm1 : (m : Int) < (xs.length : Int) := by omega
      by_cases h2 : t.pName = s.pName
      case pos =>
        have HP := Lib.hid (goodL_pair HS.out HT.out hmk (fun g => g.2.1 h2))
        have h2' : (t.pName.toList == s.pName.toList) = true := by simp [h2]
        clear h2
        go_wp2
        go_quiet (fail)
        go_wp2
        go_ret
        exact ⟨ret_bool HP.out.symm, drewN_b CI _⟩
      have h2' := str_ne h2
      have H2 := Lib.hid h2
      clear h2
      by_cases h3 : t.pX = s.pX
      · have h3' : (t.pX == s.pX) = true := by simp [h3]
        by_cases h4 : t.pY = s.pY
        · have h4' : (t.pY == s.pY) = true := by simp [h4]
          have HP := Lib.hid (goodL_pair HS.out HT.out hmk (fun g => g.2.2 ⟨h3, h4⟩))
          clear h3 h4
          go_wp2
          go_quiet (fail)
          go_wp2
          go_ret
          exact ⟨ret_bool HP.out.symm, drewN_b CI _⟩
        · have h4' : (t.pY == s.pY) = false := by simpa using h4
          have HA2 := Lib.hid (allN_succ HA.out HT.out ⟨H2.out, fun g => h4 g.2⟩)
          clear h3 h4
          go_wp2
          go_quiet (fail)
          go_wp2
          go_roundw
          case rel => exact ⟨m + 1, by omega, by go_num, HA2, drewN_b hbi _⟩
          case measure => simp [intOf]; omega
      · have h3' : (t.pX == s.pX) = false := by simpa using h3
        have HA2 := Lib.hid (allN_succ HA.out HT.out ⟨H2.out, fun g => h3 g.1⟩)
        clear h3
        go_wp2
        go_quiet (fail)
        go_wp2
        go_roundw
        case rel => exact ⟨m + 1, by omega, by go_num, HA2, drewN_b hbi _⟩
        case measure => simp [intOf]; omega
theorem specAre (xs : List GStation) (v : Value) (w : World) (B : Nat) (h : StationL w B v xs) (hB : B ≤ w.heap.size) (hn : szsStation xs ≤ 1048576) (hw : ∀ s ∈ xs, wfStation s) :
    Calls Try.prog 68 #[v] w fun e w' => e = .returned (.bool (goodL xs)) ∧ Below w.heap.size w w' := by
  have C := Lib.hid (specGoodL xs v w B h hB hn hw)
  obtain ⟨ao, cap, rfl, -⟩ := h
  go_enter Try.func68, Try.ntmps68
  go_wp2_with fail
  refine C.out.mono ?_
  rintro e w1 ⟨rfl, hb⟩
  go_wp2
  go_ret
  exact ⟨rfl, hb⟩
theorem implAreV (xs : List GStation) (v : Value) (w : World) (B : Nat) (h : StationL w B v xs) (hB : B ≤ w.heap.size) (hn : szsStation xs ≤ 1048576) (hw : ∀ s ∈ xs, wfStation s) (u : Bool) (hu : goodL xs = u) :
    Calls Try.prog 67 #[v] w fun e w' => e = .returned (.bool u) ∧ Below w.heap.size w w' := hu ▸ implAre xs v w B h hB hn hw
theorem specGoodV (xs : List GStation) (v : Value) (w : World) (B : Nat) (h : StationL w B v xs) (hB : B ≤ w.heap.size) (hn : szsStation xs ≤ 1048576) (hw : ∀ s ∈ xs, wfStation s) (u : Bool) (hu : goodL xs = u) :
    Calls Try.prog 103 #[v] w fun e w' => e = .returned (.bool u) ∧ Below w.heap.size w w' := hu ▸ specGoodL xs v w B h hB hn hw
theorem goodL_at {xs : List GStation} (h : goodL xs = true) {i : Nat} {s : GStation} (hs : xs[i]? = some s) : goodS s = true := ((goodL_yes h).2 i s hs (List.getElem?_eq_some_iff.1 hs).1).1
theorem goodL_len {xs : List GStation} (h : goodL xs = true) : xs.length ≤ 10 := (goodL_yes h).1
end Go.Proofs.Ytklilfbokpljkab
