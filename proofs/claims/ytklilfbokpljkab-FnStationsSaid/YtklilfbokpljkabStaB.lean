/- The common band. -/
import Derived.Test.YtklilfbokpljkabStaL
import Derived.Test.YtklilfbokpljkabGood
namespace Go.Proofs.Ytklilfbokpljkab
open Go.ChangeShapes Go.WideShapes Go.ChangeAt Go.RowKit Go.ChangeMaps Go.Sort
set_option linter.unusedSimpArgs false
set_option linter.unusedVariables false

def mx (a b : Int) : Int := if b < a then a else b
def mn (a b : Int) : Int := if b < a then b else a
def lowsB (xs : List GStation) : Int := (xs.map fun s => s.pLow).foldl mx 1
def highsB (xs : List GStation) : Int := (xs.map fun s => s.pHigh).foldl mn 5000
theorem lowsB_snoc {xs : List GStation} {k : Nat} {s : GStation} (h : xs[k]? = some s) : lowsB (xs.take (k + 1)) = mx (lowsB (xs.take k)) s.pLow := by
  unfold lowsB; rw [take_snoc h, List.map_append, List.foldl_append]; rfl
theorem highsB_snoc {xs : List GStation} {k : Nat} {s : GStation} (h : xs[k]? = some s) : highsB (xs.take (k + 1)) = mn (highsB (xs.take k)) s.pHigh := by
  unfold highsB; rw [take_snoc h, List.map_append, List.foldl_append]; rfl
def okBd (xs : List GStation) : Prop := goodL xs = true ∧ xs ≠ [] ∧ lowsB xs ≤ highsB xs
noncomputable def okBand (xs : List GStation) : Bool := @decide (okBd xs) (Classical.propDecidable _)
noncomputable def loBand (xs : List GStation) : Int := if okBand xs then lowsB xs else 0
noncomputable def hiBand (xs : List GStation) : Int := if okBand xs then highsB xs else 0
theorem okBand_no {xs : List GStation} (h : ¬ okBd xs) : okBand xs = false := @decide_eq_false _ (Classical.propDecidable _) h
theorem okBand_yes {xs : List GStation} (h : okBd xs) : okBand xs = true := @decide_eq_true _ (Classical.propDecidable _) h
theorem noBd {xs : List GStation} (h : okBand xs = false) : Ending.returned (.tuple #[.int .i64 0, .int .i64 0, .bool false]) = .returned (.tuple #[.int .i64 (loBand xs), .int .i64 (hiBand xs), .bool (okBand xs)]) := by
  unfold loBand hiBand; rw [h]; rfl
theorem yesBd {xs : List GStation} {a b : Int} (h : okBand xs = true) (ha : a = lowsB xs) (hb : b = highsB xs) : Ending.returned (.tuple #[.int .i64 a, .int .i64 b, .bool true]) = .returned (.tuple #[.int .i64 (loBand xs), .int .i64 (hiBand xs), .bool (okBand xs)]) := by
  unfold loBand hiBand; rw [h, ha, hb]; rfl
theorem mostM (x y : Int) (w : World) : Calls Try.prog 91 #[.int .i64 x, .int .i64 y] w fun e w' => e = .returned (.int .i64 (mx x y)) ∧ w = w' := (mostAny x y w).mono fun e w' ⟨h, hw⟩ => ⟨h, hw.symm⟩
theorem leastM (x y : Int) (w : World) : Calls Try.prog 107 #[.int .i64 x, .int .i64 y] w fun e w' => e = .returned (.int .i64 (mn x y)) ∧ w = w' := by
  unfold mn
  by_cases h : y < x
  · rw [if_pos h]
    have h' : ¬ x < y := by omega
    go_enter Try.func107, Try.ntmps107
    go_wp2
    all_goals (go_ret; first | exact ⟨rfl, rfl⟩ | exact ⟨ret_int (by omega), rfl⟩)
  · rw [if_neg h]
    go_enter Try.func107, Try.ntmps107
    go_wp2
    all_goals (go_ret; first | exact ⟨rfl, rfl⟩ | exact ⟨ret_int (by omega), rfl⟩)
theorem nil_of {α : Type} {xs : List α} (h : xs.length = 0) : xs = [] := List.eq_nil_of_length_eq_zero h

set_option maxRecDepth 100000 in
set_option maxHeartbeats 1000000 in
theorem specBand (xs : List GStation) (v : Value) (w : World) (B : Nat) (h : StationL w B v xs) (hB : B ≤ w.heap.size) (hn : szsStation xs ≤ 1048576) (hw : ∀ s ∈ xs, wfStation s) :
    Calls Try.prog 62 #[v] w fun e w' => e = .returned (.tuple #[.int .i64 (loBand xs), .int .i64 (hiBand xs), .bool (okBand xs)]) ∧ Below w.heap.size w w' := by
  by_cases hg : goodL xs = true
  case neg =>
    have C := Lib.hid (specGoodV xs v w B h hB hn hw false (bool_f hg))
    have HG := Lib.hid (okBand_no (xs := xs) (fun g => hg g.1))
    clear hg
    obtain ⟨ao, cap, rfl, -⟩ := h
    go_enter Try.func62, Try.ntmps62
    go_wp2_with fail
    refine C.out.mono ?_
    rintro e w1 ⟨rfl, hb⟩
    go_wp2
    go_ret3
    exact ⟨noBd HG.out, hb⟩
  have C := Lib.hid (specGoodV xs v w B h hB hn hw true hg)
  have HGood := Lib.hid hg
  have hlen := goodL_len hg
  clear hg
  obtain ⟨ao, cap, rfl, hcap, hmax, hnn, hc⟩ := h
  unfold maxLen at hmax
  have HC := Lib.hid hc
  have HN := Lib.hid hnn
  clear hc hnn
  by_cases h0 : xs.length = 0
  case pos =>
    have HG := Lib.hid (okBand_no (xs := xs) (fun g => g.2.1 (nil_of h0)))
    have h0' : ((xs.length : Int) == 0) = true := by simp [h0]
    clear h0
    go_enter Try.func62, Try.ntmps62
    go_wp2_with fail
    refine C.out.mono ?_
    rintro e w1 ⟨rfl, hb⟩
    go_wp2
    go_ret3
    exact ⟨noBd HG.out, hb⟩
  have h0' : ((xs.length : Int) == 0) = false := by rw [beq_eq_false_iff_ne]; omega
  have h1' : ¬ xs = [] := fun e => h0 (by rw [e]; rfl)
  have h2' : ¬ xs.length = 0 := h0
  have HNE : Hid (xs ≠ []) := Lib.hid (fun e => h0 (by rw [e]; rfl))
  clear h0
  go_enter Try.func62, Try.ntmps62
  go_wp2_with fail
  refine C.out.mono ?_
  rintro e w1 ⟨rfl, hb1⟩
  go_wp2
  clear C h0' h1' h2'
  go_loopw [5, 6, 7] (fun l h i wr => ∃ k : Nat, k ≤ xs.length ∧ i = .int .i64 k ∧ l = .int .i64 (lowsB (xs.take k)) ∧ h = .int .i64 (highsB (xs.take k)) ∧ Below w.heap.size w wr)
    (fun _ _ i _ => xs.length - (intOf i).toNat)
  case atStart => exact ⟨0, Nat.zero_le _, rfl, rfl, rfl, hb1⟩
  case round =>
    obtain ⟨k, hk, rfl, rfl, rfl, hbl⟩ := hrel
    by_cases hlt : k < xs.length
    case neg =>
      obtain rfl : k = xs.length := by omega
      rw [List.take_length]
      generalize hl : lowsB xs = lo
      generalize hh : highsB xs = hi
      have HL := Lib.hid hl
      have HH := Lib.hid hh
      clear hl hh
      by_cases hle : lo ≤ hi
      · have HG := Lib.hid (okBand_yes (xs := xs) ⟨HGood.out, HNE.out, by rw [HL.out, HH.out]; exact hle⟩)
        go_wp2
        go_ret3
        exact ⟨yesBd HG.out HL.out.symm HH.out.symm, hbl⟩
      · have HG := Lib.hid (okBand_no (xs := xs) (fun g => hle (by have := g.2.2; rw [HL.out, HH.out] at this; exact this)))
        go_wp2
        go_ret3
        exact ⟨noBd HG.out, hbl⟩
    obtain ⟨s, hs⟩ := get_of_lt hlt
    obtain ⟨b, off, rfl, hb, hcell⟩ := HC.out k s hs
    have c5 : wr.cell? ⟨b, off + k * 8 + 5, none⟩ = some (.int .i64 s.pLow) := cellOf hbl (by omega) (hcell 5 _ rfl)
    have c6 : wr.cell? ⟨b, off + k * 8 + 6, none⟩ = some (.int .i64 s.pHigh) := cellOf hbl (by omega) (hcell 6 _ rfl)
    have HS := Lib.hid hs
    have HLS := Lib.hid (lowsB_snoc hs)
    have HHS := Lib.hid (highsB_snoc hs)
    clear hs hcell
    generalize hl : lowsB (xs.take k) = lo at *
    generalize hh : highsB (xs.take k) = hi at *
    clear hl hh
    go_wp2_with fail
    refine (mostM lo s.pLow _).mono ?_
    rintro e w2 ⟨rfl, rfl⟩
    go_wp2_with fail
    refine (leastM hi s.pHigh _).mono ?_
    rintro e w2 ⟨rfl, rfl⟩
    go_wp2
    go_roundw
    case rel => exact ⟨k + 1, by omega, by go_num, by rw [HLS.out], by rw [HHS.out], hbl⟩
    case measure => simp [intOf]; omega


theorem mx_max (a b : Int) : (if b > a then b else a) = mx a b := by unfold mx; split <;> split <;> omega
theorem mn_min (a b : Int) : (if b < a then b else a) = mn a b := rfl
theorem lowsB_one {xs : List GStation} {s : GStation} (h : xs[0]? = some s) (hl : 1 ≤ s.pLow) : lowsB (xs.take 1) = s.pLow := by
  have := lowsB_snoc (k := 0) h
  rw [Nat.zero_add] at this
  rw [this]; show mx 1 s.pLow = _; unfold mx; split <;> omega
theorem highsB_one {xs : List GStation} {s : GStation} (h : xs[0]? = some s) (hl : s.pHigh ≤ 5000) : highsB (xs.take 1) = s.pHigh := by
  have := highsB_snoc (k := 0) h
  rw [Nat.zero_add] at this
  rw [this]; show mn 5000 s.pHigh = _; unfold mn; split <;> omega
set_option maxRecDepth 100000 in
set_option maxHeartbeats 2000000 in
theorem implBand (xs : List GStation) (v : Value) (w : World) (B : Nat) (h : StationL w B v xs) (hB : B ≤ w.heap.size) (hn : szsStation xs ≤ 1048576) (hw : ∀ s ∈ xs, wfStation s) :
    Calls Try.prog 61 #[v] w fun e w' => e = .returned (.tuple #[.int .i64 (loBand xs), .int .i64 (hiBand xs), .bool (okBand xs)]) ∧ Below w.heap.size w w' := by
  by_cases hg : goodL xs = true
  case neg =>
    have C := Lib.hid (implAreV xs v w B h hB hn hw false (bool_f hg))
    have HG := Lib.hid (okBand_no (xs := xs) (fun g => hg g.1))
    clear hg
    obtain ⟨ao, cap, rfl, -⟩ := h
    go_enter Try.func61, Try.ntmps61
    go_wp2_with fail
    refine C.out.mono ?_
    rintro e w1 ⟨rfl, hb⟩
    go_wp2
    go_ret3
    exact ⟨noBd HG.out, hb⟩
  have C := Lib.hid (implAreV xs v w B h hB hn hw true hg)
  have HGood := Lib.hid hg
  have hlen := goodL_len hg
  clear hg
  obtain ⟨ao, cap, rfl, hcap, hmax, hnn, hc⟩ := h
  unfold maxLen at hmax
  have HC := Lib.hid hc
  clear hc hnn
  by_cases h0 : xs.length = 0
  case pos =>
    have HG := Lib.hid (okBand_no (xs := xs) (fun g => g.2.1 (nil_of h0)))
    have h0' : ((xs.length : Int) == 0) = true := by simp [h0]
    clear h0
    go_enter Try.func61, Try.ntmps61
    go_wp2_with fail
    refine C.out.mono ?_
    rintro e w1 ⟨rfl, hb⟩
    go_wp2
    go_ret3
    exact ⟨noBd HG.out, hb⟩
  obtain ⟨s0, hs0⟩ := get_of_lt (l := xs) (k := 0) (by omega)
  obtain ⟨b, off, rfl, hb0, hcell0⟩ := HC.out 0 s0 hs0
  have g0 := goodS_bounds (goodL_at HGood.out hs0)
  have HL1 := Lib.hid (lowsB_one hs0 (by omega))
  have HH1 := Lib.hid (highsB_one hs0 (by omega))
  clear hs0
  have h0' : ((xs.length : Int) == 0) = false := by rw [beq_eq_false_iff_ne]; omega
  have h1' : ¬ xs = [] := fun e => h0 (by rw [e]; rfl)
  have h3' : 0 < xs.length := by omega
  have h4' : (1 : Int) ≤ (xs.length : Int) := by omega
  have HNE : Hid (xs ≠ []) := Lib.hid h1'
  by_cases hcap1 : cap = 1
  case pos =>
    have hl1 : xs.length = 1 := by omega
    have HLEN := Lib.hid hl1
    have hl2 : ¬ (0 : Int) < (xs.length : Int) - 1 := by omega
    have hl3 : xs.length - 1 = 0 := by omega
    clear hl1
    subst hcap1
    go_enter Try.func61, Try.ntmps61
    go_wp2_with fail
    refine C.out.mono ?_
    rintro e w1 ⟨rfl, hb1⟩
    have c5 : w1.cell? ⟨b, off + 5, none⟩ = some (.int .i64 s0.pLow) := cellOf hb1 (by omega) (by have := hcell0 5 _ rfl; simpa using this)
    have c6 : w1.cell? ⟨b, off + 6, none⟩ = some (.int .i64 s0.pHigh) := cellOf hb1 (by omega) (by have := hcell0 6 _ rfl; simpa using this)
    clear hcell0
    go_wp2
    go_quiet (fail)
    go_wp2
    have CI := drewN_b hb1 nq
    go_loopw [5, 6, 28] (fun l h i wr => i = .int .i64 0 ∧ l = .int .i64 s0.pLow ∧ h = .int .i64 s0.pHigh ∧ Below w.heap.size w wr) (fun _ _ _ _ => 0)
    case atStart => exact ⟨rfl, rfl, rfl, CI⟩
    case round =>
      obtain ⟨rfl, rfl, rfl, hbl⟩ := hrel
      have HL := HL1.out
      have HH := HH1.out
      rw [List.take_of_length_le (by rw [HLEN.out]; omega)] at HL HH
      have HG := Lib.hid (okBand_yes (xs := xs) ⟨HGood.out, HNE.out, by rw [HL, HH]; omega⟩)
      have HL2 := Lib.hid HL
      have HH2 := Lib.hid HH
      have gl : ¬ s0.pHigh < s0.pLow := by omega
      clear HL HH g0
      go_wp2
      go_ret3
      exact ⟨yesBd HG.out HL2.out.symm HH2.out.symm, hbl⟩
  have hcap2 : 2 ≤ cap := by omega
  have hcap3 : ¬ cap = 1 := hcap1
  clear hcap1
  go_enter Try.func61, Try.ntmps61
  go_wp2_with fail
  refine C.out.mono ?_
  rintro e w1 ⟨rfl, hb1⟩
  have c5 : w1.cell? ⟨b, off + 5, none⟩ = some (.int .i64 s0.pLow) := cellOf hb1 (by omega) (by have := hcell0 5 _ rfl; simpa using this)
  have c6 : w1.cell? ⟨b, off + 6, none⟩ = some (.int .i64 s0.pHigh) := cellOf hb1 (by omega) (by have := hcell0 6 _ rfl; simpa using this)
  clear hcell0
  go_wp2
  go_quiet (fail)
  go_wp2
  have CI := drewN_b hb1 nq
  clear c5 c6 h0' h1'
  go_loopw [5, 6, 28] (fun l h i wr => ∃ k : Nat, k ≤ xs.length - 1 ∧ i = .int .i64 k ∧ l = .int .i64 (lowsB (xs.take (k + 1))) ∧ h = .int .i64 (highsB (xs.take (k + 1))) ∧ Below w.heap.size w wr)
    (fun _ _ i _ => xs.length - (intOf i).toNat)
  case atStart => exact ⟨0, Nat.zero_le _, rfl, by rw [Nat.zero_add, HL1.out], by rw [Nat.zero_add, HH1.out], CI⟩
  case round =>
    obtain ⟨k, hk, rfl, rfl, rfl, hbl⟩ := hrel
    by_cases hlt : k < xs.length - 1
    case neg =>
      have hkk : k + 1 = xs.length := by omega
      have hk2 : ¬ (k : Int) < (xs.length : Int) - 1 := by omega
      rw [hkk, List.take_length]
      have HKK := Lib.hid hkk
      clear hkk
      generalize hl : lowsB xs = lo
      generalize hh : highsB xs = hi
      have HL := Lib.hid hl
      have HH := Lib.hid hh
      clear hl hh
      by_cases hle : lo ≤ hi
      · have HG := Lib.hid (okBand_yes (xs := xs) ⟨HGood.out, HNE.out, by rw [HL.out, HH.out]; exact hle⟩)
        go_wp2
        go_ret3
        exact ⟨yesBd HG.out HL.out.symm HH.out.symm, hbl⟩
      · have HG := Lib.hid (okBand_no (xs := xs) (fun g => hle (by have := g.2.2; rw [HL.out, HH.out] at this; exact this)))
        go_wp2
        go_ret3
        exact ⟨noBd HG.out, hbl⟩
    obtain ⟨s, hs⟩ := get_of_lt (l := xs) (k := k + 1) (by omega)
    obtain ⟨b', off', e1, -, hcell⟩ := HC.out (k + 1) s hs
    simp only [Option.some.injEq, Addr.mk.injEq, and_true] at e1
    obtain ⟨rfl, rfl⟩ := e1
    have c0 : wr.cell? ⟨b, off + 8 + k * 8, none⟩ = some (.int .i64 s.pId) := cellOf hbl (by omega) (by have := hcell 0 _ rfl; rwa [show off + (k + 1) * 8 + 0 = off + 8 + k * 8 + 0 by omega] at this)
    have c1 : wr.cell? ⟨b, off + 8 + k * 8 + 1, none⟩ = some (.string s.pName) := cellOf hbl (by omega) (by have := hcell 1 _ rfl; rwa [show off + (k + 1) * 8 + 1 = off + 8 + k * 8 + 1 by omega] at this)
    have c2 : wr.cell? ⟨b, off + 8 + k * 8 + 2, none⟩ = some (.int .i64 s.pX) := cellOf hbl (by omega) (by have := hcell 2 _ rfl; rwa [show off + (k + 1) * 8 + 2 = off + 8 + k * 8 + 2 by omega] at this)
    have c3 : wr.cell? ⟨b, off + 8 + k * 8 + 3, none⟩ = some (.int .i64 s.pY) := cellOf hbl (by omega) (by have := hcell 3 _ rfl; rwa [show off + (k + 1) * 8 + 3 = off + 8 + k * 8 + 3 by omega] at this)
    have c4 : wr.cell? ⟨b, off + 8 + k * 8 + 4, none⟩ = some (.int .i64 s.pGain) := cellOf hbl (by omega) (by have := hcell 4 _ rfl; rwa [show off + (k + 1) * 8 + 4 = off + 8 + k * 8 + 4 by omega] at this)
    have c5 : wr.cell? ⟨b, off + 8 + k * 8 + 5, none⟩ = some (.int .i64 s.pLow) := cellOf hbl (by omega) (by have := hcell 5 _ rfl; rwa [show off + (k + 1) * 8 + 5 = off + 8 + k * 8 + 5 by omega] at this)
    have c6 : wr.cell? ⟨b, off + 8 + k * 8 + 6, none⟩ = some (.int .i64 s.pHigh) := cellOf hbl (by omega) (by have := hcell 6 _ rfl; rwa [show off + (k + 1) * 8 + 6 = off + 8 + k * 8 + 6 by omega] at this)
    have c7 : wr.cell? ⟨b, off + 8 + k * 8 + 7, none⟩ = some (.int .i64 s.pUntil) := cellOf hbl (by omega) (by have := hcell 7 _ rfl; rwa [show off + (k + 1) * 8 + 7 = off + 8 + k * 8 + 7 by omega] at this)
    have HS := Lib.hid hs
    have HLS := Lib.hid (lowsB_snoc hs)
    have HHS := Lib.hid (highsB_snoc hs)
    clear hs hcell
    have hlt2 : (k : Int) < (xs.length : Int) - 1 := by omega
    have bx := Bx.new wr [.int .i64 s.pId, .string s.pName, .int .i64 s.pX, .int .i64 s.pY, .int .i64 s.pGain, .int .i64 s.pLow, .int .i64 s.pHigh, .int .i64 s.pUntil] 60
    have N1 := (Below.refl wr.heap.size wr).alloc (Nat.le_refl _) (.cells #[.int .i64 s.pId, .string s.pName, .int .i64 s.pX, .int .i64 s.pY, .int .i64 s.pGain, .int .i64 s.pLow, .int .i64 s.pHigh, .int .i64 s.pUntil] 60)
    have hsz := hbl.size
    have d5 := bx.2 5 _ rfl
    have d6 := bx.2 6 _ rfl
    generalize hl : lowsB (xs.take (k + 1)) = lo at *
    generalize hh : highsB (xs.take (k + 1)) = hi at *
    clear hl hh
    go_wp2
    go_quiet (fail)
    go_wp2
    go_roundw
    case rel => exact ⟨k + 1, by omega, by go_num, by rw [HLS.out, ← mx_max], by rw [HHS.out, ← mn_min], drewN_b (hbl.trans (N1.mono hsz)) _⟩
    case measure => simp [intOf]; omega
end Go.Proofs.Ytklilfbokpljkab
