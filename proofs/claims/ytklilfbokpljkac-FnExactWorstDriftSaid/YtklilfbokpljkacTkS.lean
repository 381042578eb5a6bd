/- Offsets and steps of a track: the specification. -/
import Derived.Test.YtklilfbokpljkacTkT
import Derived.Test.YtklilfbokpljkacAcc
namespace Go.Proofs.Ytklilfbokpljkac
open Go.ChangeShapes Go.WideShapes Go.ChangeAt Go.RowKit Go.ChangeMaps
set_option linter.unusedSimpArgs false
set_option linter.unusedVariables false

def offT (m : GClockMark) : Int := m.pTrue - m.pShown
def mnT (a b : Int) : Int := if b < a then b else a
def mxT (a b : Int) : Int := if a < b then b else a
def loT : List GClockMark → Int
  | [] => 0
  | a :: r => (r.map offT).foldl mnT (offT a)
def hiT : List GClockMark → Int
  | [] => 0
  | a :: r => (r.map offT).foldl mxT (offT a)
theorem loT_snoc {xs : List GClockMark} {k : Nat} {m : GClockMark} (h : xs[k]? = some m) (hk : 1 ≤ k) : loT (xs.take (k + 1)) = mnT (loT (xs.take k)) (offT m) := by
  rw [take_snoc h]
  have hl := (List.getElem?_eq_some_iff.1 h).1
  match xs, k, hk with
  | a :: r, k + 1, _ =>
    rw [List.take_succ_cons, List.cons_append]
    show ((r.take k ++ [m]).map offT).foldl mnT (offT a) = mnT (((r.take k).map offT).foldl mnT (offT a)) (offT m)
    rw [List.map_append, List.foldl_append]; rfl
theorem hiT_snoc {xs : List GClockMark} {k : Nat} {m : GClockMark} (h : xs[k]? = some m) (hk : 1 ≤ k) : hiT (xs.take (k + 1)) = mxT (hiT (xs.take k)) (offT m) := by
  rw [take_snoc h]
  have hl := (List.getElem?_eq_some_iff.1 h).1
  match xs, k, hk with
  | a :: r, k + 1, _ =>
    rw [List.take_succ_cons, List.cons_append]
    show ((r.take k ++ [m]).map offT).foldl mxT (offT a) = mxT (((r.take k).map offT).foldl mxT (offT a)) (offT m)
    rw [List.map_append, List.foldl_append]; rfl
theorem loT_one {xs : List GClockMark} {m : GClockMark} (h : xs[0]? = some m) : loT (xs.take 1) = offT m ∧ hiT (xs.take 1) = offT m := by
  match xs, h with
  | a :: r, h => simp at h; subst h; exact ⟨rfl, rfl⟩
noncomputable def loSp (xs : List GClockMark) : Int := if goodTk xs then loT xs else 0
noncomputable def hiSp (xs : List GClockMark) : Int := if goodTk xs then hiT xs else 0
theorem noSp {xs : List GClockMark} (h : goodTk xs = false) : Ending.returned (.tuple #[.int .i64 0, .int .i64 0, .bool false]) = .returned (.tuple #[.int .i64 (loSp xs), .int .i64 (hiSp xs), .bool (goodTk xs)]) := by unfold loSp hiSp; rw [h]; rfl
theorem yesSp {xs : List GClockMark} {a b : Int} (h : goodTk xs = true) (ha : loT xs = a) (hb : hiT xs = b) : Ending.returned (.tuple #[.int .i64 a, .int .i64 b, .bool true]) = .returned (.tuple #[.int .i64 (loSp xs), .int .i64 (hiSp xs), .bool (goodTk xs)]) := by unfold loSp hiSp; rw [h, ← ha, ← hb]; rfl
theorem leastT (x y : Int) (w : World) : Calls Try.prog 104 #[.int .i64 x, .int .i64 y] w fun e w' => e = .returned (.int .i64 (mnT x y)) ∧ w' = w := by
  unfold mnT
  by_cases h : x < y
  · have e : ¬ y < x := by omega
    rw [if_neg e]
    go_enter Try.func104, Try.ntmps104
    go_wp2
    go_ret
    exact ⟨rfl, rfl⟩
  · by_cases e : y < x
    · rw [if_pos e]
      go_enter Try.func104, Try.ntmps104
      go_wp2
      go_ret
      exact ⟨rfl, rfl⟩
    · obtain rfl : x = y := by omega
      rw [if_neg e]
      go_enter Try.func104, Try.ntmps104
      go_wp2
      go_ret
      exact ⟨rfl, rfl⟩
theorem mostT (x y : Int) (w : World) : Calls Try.prog 105 #[.int .i64 x, .int .i64 y] w fun e w' => e = .returned (.int .i64 (mxT x y)) ∧ w' = w := by
  refine (mostAny x y w).mono ?_
  rintro e w' ⟨rfl, rfl⟩
  refine ⟨?_, rfl⟩
  unfold mxT
  congr 2
  split <;> split <;> omega
set_option maxRecDepth 100000 in
set_option maxHeartbeats 2000000 in
theorem specSpan (xs : List GClockMark) (v : Value) (w : World) (B : Nat) (h : ClockMarkL w B v xs) (hB : B ≤ w.heap.size) (hn : szsClockMark xs ≤ 1048576) (hw : ∀ m ∈ xs, wfClockMark m) :
    Calls Try.prog 43 #[v] w fun e w' => e = .returned (.tuple #[.int .i64 (loSp xs), .int .i64 (hiSp xs), .bool (goodTk xs)]) ∧ Below w.heap.size w w' := by
  have hl : xs.length ≤ 1048576 := Nat.le_trans (szsClockMark_len xs) hn
  by_cases hg : goodTk xs = true
  case neg =>
    have hg : goodTk xs = false := by simpa using hg
    have C := Lib.hid (specGoodTkV xs v w B h hB hl false hg)
    have HF := Lib.hid (noSp hg)
    obtain ⟨ao, cap, rfl⟩ := h.form
    clear h hg
    go_enter Try.func43, Try.ntmps43
    go_wp2_with fail
    refine C.out.mono ?_
    rintro e w1 ⟨rfl, hb⟩
    go_wp2
    go_ret3
    exact ⟨HF.out, hb⟩
  have C := Lib.hid (specGoodTkV xs v w B h hB hl true hg)
  have HK := Lib.hid (goodTk_yes hg)
  have HY := Lib.hid (fun a b => yesSp (a := a) (b := b) hg)
  have hl2 := HK.out.1.1
  have hl10 : (xs.length : Int) ≤ 10 := by have := HK.out.1.2; omega
  obtain ⟨ao, cap, rfl, hcap, hmax, -, hc⟩ := h
  have HC := Lib.hid hc
  clear hc hg
  obtain ⟨m0, hm0⟩ := get_of_lt (l := xs) (k := 0) (by omega)
  obtain ⟨b, off, rfl, hbb, hcell⟩ := HC.out 0 m0 hm0
  obtain ⟨⟨t0, t1⟩, t2, t3⟩ := okTk_tick HK.out hm0
  have HL1 := Lib.hid (loT_one hm0)
  have d0 : w.cell? ⟨b, off, none⟩ = some (.int .i64 m0.pShown) := by have := hcell 0 _ rfl; simpa using this
  have d1 : w.cell? ⟨b, off + 1, none⟩ = some (.int .i64 m0.pTrue) := by have := hcell 1 _ rfl; simpa using this
  clear hm0 hcell
  have g0 : (0 : Int) < (xs.length : Int) := by omega
  have g1 : 0 < xs.length := by omega
  go_enter Try.func43, Try.ntmps43
  go_wp2_with fail
  refine C.out.mono ?_
  rintro e w1 ⟨rfl, hb⟩
  have d0 := cellOf hb (by omega) d0
  have d1 := cellOf hb (by omega) d1
  go_wp2
  go_quiet (fail)
  have hb1 := drewN_b hb nq
  clear d0 d1
  go_wp2
  go_loopw [5, 6, 7] (fun l h i wr => ∃ k : Nat, (1 ≤ k ∧ k ≤ xs.length) ∧ i = .int .i64 k ∧ l = .int .i64 (loT (xs.take k)) ∧ h = .int .i64 (hiT (xs.take k)) ∧ Below w.heap.size w wr) (fun _ _ i _ => xs.length - (intOf i).toNat)
  case atStart => exact ⟨1, ⟨Nat.le_refl _, by omega⟩, rfl, by rw [HL1.out.1]; rfl, by rw [HL1.out.2]; rfl, hb1⟩
  case round =>
    obtain ⟨k, ⟨hk1, hk2⟩, rfl, rfl, rfl, hbl⟩ := hrel
    by_cases hlt : k < xs.length
    case neg =>
      obtain rfl : k = xs.length := by omega
      rw [List.take_length]
      have HF := Lib.hid (HY.out _ _ rfl rfl)
      generalize loT xs = lo at *
      generalize hiT xs = hi at *
      go_wp2
      go_ret3
      exact ⟨HF.out, hbl⟩
    obtain ⟨m, hm⟩ := get_of_lt hlt
    obtain ⟨b', off', e9, -, hcell⟩ := HC.out k m hm
    simp only [Option.some.injEq, Addr.mk.injEq, and_true] at e9
    obtain ⟨rfl, rfl⟩ := e9
    obtain ⟨⟨u0, u1⟩, u2, u3⟩ := okTk_tick HK.out hm
    have c0 : wr.cell? ⟨b, off + k * 2, none⟩ = some (.int .i64 m.pShown) := cellOf hbl (by omega) (hcell 0 _ rfl)
    have c1 : wr.cell? ⟨b, off + k * 2 + 1, none⟩ = some (.int .i64 m.pTrue) := cellOf hbl (by omega) (hcell 1 _ rfl)
    have hi0 : (0 : Int) ≤ (k : Int) := by omega
    have hi1 : (k : Int) < (xs.length : Int) := by omega
    have s1 : IntKind.i64.wrap (m.pTrue - m.pShown) = m.pTrue - m.pShown := IntWalk.i64_in _ (by omega)
    have HLS := Lib.hid (loT_snoc hm hk1)
    have HHS := Lib.hid (hiT_snoc hm hk1)
    generalize loT (xs.take k) = lo at *
    generalize hiT (xs.take k) = hi at *
    have CL := Lib.hid (fun W => leastT lo (m.pTrue - m.pShown) W)
    have CM := Lib.hid (fun W => mostT hi (m.pTrue - m.pShown) W)
    clear hm hcell
    go_wp2
    go_quiet ((go_at_call 104; exact Calls.quiet_of_same (CL.out _)))
    have hb2 := drewN_b hbl nq
    have c0' : (wr.drewN nq).cell? ⟨b, off + k * 2, none⟩ = some (.int .i64 m.pShown) := c0
    have c1' : (wr.drewN nq).cell? ⟨b, off + k * 2 + 1, none⟩ = some (.int .i64 m.pTrue) := c1
    generalize wr.drewN nq = w3 at *
    go_wp2
    go_quiet ((go_at_call 105; exact Calls.quiet_of_same (CM.out _)))
    go_wp2
    go_roundw
    case rel => exact ⟨k + 1, ⟨by omega, by omega⟩, by go_num, congrArg _ HLS.out.symm, congrArg _ HHS.out.symm, drewN_b hb2 _⟩
    case measure => simp [intOf]; omega

/-- The offset jumps from number i - 1 to number i. -/
def dOff (xs : List GClockMark) (i : Nat) : Int := match xs[i - 1]?, xs[i]? with | some p, some m => m.pTrue - m.pShown - p.pTrue + p.pShown | _, _ => 0
def farT (xs : List GClockMark) (j : Int) (i : Nat) : Bool := decide (1 ≤ i) && (decide (j < dOff xs i) || decide (j < -dOff xs i))
def stepsTo (xs : List GClockMark) (j : Int) : Nat → List Int
  | 0 => []
  | k + 1 => if farT xs j k then stepsTo xs j k ++ [(k : Int)] else stepsTo xs j k
theorem stepsTo_len (xs : List GClockMark) (j : Int) : ∀ k, (stepsTo xs j k).length ≤ k
  | 0 => Nat.le_refl _
  | k + 1 => by
    have := stepsTo_len xs j k
    rw [stepsTo]
    split
    · rw [List.length_append, List.length_singleton]; omega
    · omega
theorem stepsTo_one (xs : List GClockMark) (j : Int) : stepsTo xs j 1 = [] := by simp [stepsTo, farT]
noncomputable def okStp (xs : List GClockMark) (j : Int) : Bool := goodTk xs && tickB j
noncomputable def resStp (xs : List GClockMark) (j : Int) : List Int := if okStp xs j then stepsTo xs j xs.length else []
theorem resStp_len {xs : List GClockMark} {j : Int} (h : szsClockMark xs ≤ 1048576) : (resStp xs j).length ≤ 1048576 := by
  unfold resStp
  split
  · have := stepsTo_len xs j xs.length
    have := szsClockMark_len xs
    omega
  · simp
set_option maxRecDepth 100000 in
set_option maxHeartbeats 2000000 in
theorem specStp (xs : List GClockMark) (v : Value) (j : Int) (w : World) (B : Nat) (h : ClockMarkL w B v xs) (hB : B ≤ w.heap.size) (hn : szsClockMark xs ≤ 1048576) (hw : ∀ m ∈ xs, wfClockMark m) (_ : I64 j) :
    Calls Try.prog 47 #[v, .int .i64 j] w fun e w' => ∃ v', e = .returned (.tuple #[v', .bool (okStp xs j)]) ∧ Own (Value.int .i64) w' w.heap.size w'.heap.size v' (resStp xs j) ∧ Below w.heap.size w w' := by
  have hl : xs.length ≤ 1048576 := Nat.le_trans (szsClockMark_len xs) hn
  have N1 := (Below.refl w.heap.size w).alloc (Nat.le_refl _) (.cells #[] 3)
  have hrow0 := row_empty w (base := w.heap.size) 3 1 (Nat.le_refl _)
  have h1 := h.below (N1.mono hB)
  unfold resStp
  cases hg : goodTk xs with
  | false =>
    have C := Lib.hid (specGoodTkV xs v _ B h1 (Nat.le_trans hB N1.size) hl false hg)
    have HO : Hid (okStp xs j = false) := Lib.hid (by unfold okStp; rw [hg]; rfl)
    clear hg
    rw [HO.out]
    obtain ⟨ao, cap, rfl⟩ := h.form
    clear h h1
    go_enter Try.func47, Try.ntmps47
    go_wp2_with fail
    refine C.out.mono ?_
    rintro e w1 ⟨rfl, hb⟩
    have C1 := N1.trans (hb.mono N1.size)
    have hr1 := row_below hrow0 hb
    go_wp2
    go_ret2
    exact ⟨_, rfl, Own.of_row (xs := ([] : List Int)) hr1, C1⟩
  | true =>
  have C := Lib.hid (specGoodTkV xs v _ B h1 (Nat.le_trans hB N1.size) hl true hg)
  have HK := Lib.hid (goodTk_yes hg)
  cases ht : tickB j with
  | false =>
    have CT := Lib.hid (fun W => specInB j 0 1000000 false W ht)
    have HO : Hid (okStp xs j = false) := Lib.hid (by unfold okStp; rw [hg, ht]; rfl)
    clear hg ht
    rw [HO.out]
    obtain ⟨ao, cap, rfl⟩ := h.form
    clear h h1
    go_enter Try.func47, Try.ntmps47
    go_wp2_with fail
    refine C.out.mono ?_
    rintro e w1 ⟨rfl, hb⟩
    have C1 := N1.trans (hb.mono N1.size)
    have hr1 := row_below hrow0 hb
    go_wp2_with fail
    refine (CT.out _).mono ?_
    rintro e w2 ⟨rfl, hw2⟩
    obtain rfl := hw2
    go_wp2
    go_ret2
    exact ⟨_, rfl, Own.of_row (xs := ([] : List Int)) hr1, C1⟩
  | true =>
  have CT := Lib.hid (fun W => specInB j 0 1000000 true W ht)
  obtain ⟨j0, j1⟩ := tickB_yes ht
  have HO : Hid (okStp xs j = true) := Lib.hid (by unfold okStp; rw [hg, ht]; rfl)
  clear hg ht
  rw [HO.out]
  have hl2 := HK.out.1.1
  have hl10 : (xs.length : Int) ≤ 10 := by have := HK.out.1.2; omega
  obtain ⟨ao, cap, rfl, hcap, hmax, -, hc⟩ := h
  unfold maxLen at hmax
  have HC := Lib.hid hc
  clear hc h1
  obtain ⟨ti, hi, hz0, hz1, hz2⟩ := info_parts infoInt
  go_enter Try.func47, Try.ntmps47
  go_wp2_with fail
  refine C.out.mono ?_
  rintro e w1 ⟨rfl, hb⟩
  have C1 := N1.trans (hb.mono N1.size)
  have hr1 := row_below hrow0 hb
  clear hb hrow0 N1
  go_wp2_with fail
  refine (CT.out _).mono ?_
  rintro e w2 ⟨rfl, hw2⟩
  obtain rfl := hw2
  go_wp2
  go_loopw [6, 7] (fun o i wr => ∃ (k : Nat) (v : Value), (1 ≤ k ∧ k ≤ xs.length) ∧ i = .int .i64 k ∧ o = v ∧ wr.ownsRow w.heap.size 3 1 v (stepsTo xs j k).length ((stepsTo xs j k).map (Value.int .i64)) ∧ (∃ ao cap, v = .slice ao (stepsTo xs j k).length cap) ∧ Below w.heap.size w wr)
    (fun _ i _ => xs.length - (intOf i).toNat)
  case atStart => exact ⟨1, _, ⟨Nat.le_refl _, by omega⟩, rfl, rfl, by rw [stepsTo_one]; exact hr1, ⟨some ⟨w.heap.size, 0, none⟩, 0, by rw [stepsTo_one]; rfl⟩, C1⟩
  case round =>
    obtain ⟨k, _, ⟨hk1, hk2⟩, rfl, rfl, hrow, ⟨aoo, capo, rfl⟩, hbl⟩ := hrel
    have hsz := hbl.size
    have hcl := stepsTo_len xs j k
    by_cases hlt : k < xs.length
    case neg =>
      obtain rfl : k = xs.length := by omega
      generalize hil : stepsTo xs j xs.length = il at *
      have HIL := Lib.hid hil
      clear hil
      go_wp2
      go_ret2
      refine ⟨.slice aoo il.length capo, rfl, ?_, hbl⟩
      show Own _ _ _ _ _ (stepsTo xs j xs.length)
      rw [HIL.out]
      exact Own.of_row (xs := il) hrow
    obtain ⟨m, hm⟩ := get_of_lt hlt
    obtain ⟨p, hp⟩ := get_of_lt (l := xs) (k := k - 1) (by omega)
    obtain ⟨b, off, rfl, hbb, hcell⟩ := HC.out k m hm
    obtain ⟨b', off', e9, -, hcell2⟩ := HC.out (k - 1) p hp
    simp only [Option.some.injEq, Addr.mk.injEq, and_true] at e9
    obtain ⟨rfl, rfl⟩ := e9
    obtain ⟨⟨u0, u1⟩, u2, u3⟩ := okTk_tick HK.out hm
    obtain ⟨⟨v0, v1⟩, v2, v3⟩ := okTk_tick HK.out hp
    have c0 : wr.cell? ⟨b, off + k * 2, none⟩ = some (.int .i64 m.pShown) := cellOf hbl (by omega) (hcell 0 _ rfl)
    have c1 : wr.cell? ⟨b, off + k * 2 + 1, none⟩ = some (.int .i64 m.pTrue) := cellOf hbl (by omega) (hcell 1 _ rfl)
    have d0 : wr.cell? ⟨b, off + (k - 1) * 2, none⟩ = some (.int .i64 p.pShown) := cellOf hbl (by omega) (hcell2 0 _ rfl)
    have d1 : wr.cell? ⟨b, off + (k - 1) * 2 + 1, none⟩ = some (.int .i64 p.pTrue) := cellOf hbl (by omega) (hcell2 1 _ rfl)
    have HD : Hid (dOff xs k = m.pTrue - m.pShown - p.pTrue + p.pShown) := Lib.hid (by unfold dOff; rw [hp, hm])
    have HFT : Hid (farT xs j k = (decide (j < m.pTrue - m.pShown - p.pTrue + p.pShown) || decide (j < -(m.pTrue - m.pShown - p.pTrue + p.pShown)))) := Lib.hid (by unfold farT; rw [HD.out, decide_eq_true hk1]; rfl)
    clear hm hp hcell hcell2
    have mp0 : (0 : Int) ≤ (k : Int) := by omega
    have mp1 : (k : Int) < (xs.length : Int) := by omega
    have mp2 : (0 : Int) ≤ (k : Int) - 1 := by omega
    have mp3 : (k : Int) - 1 < (xs.length : Int) := by omega
    have mp4 : ((k : Int) - 1).toNat = k - 1 := by omega
    have mp5 : IntKind.i64.wrap ((k : Int) - 1) = (k : Int) - 1 := IntWalk.i64_in _ (by omega)
    have mp6 : (1 : Int) ≤ (k : Int) := by omega
    have s1 : IntKind.i64.wrap (m.pTrue - m.pShown) = m.pTrue - m.pShown := IntWalk.i64_in _ (by omega)
    have s2 : IntKind.i64.wrap (m.pTrue - m.pShown - p.pTrue) = m.pTrue - m.pShown - p.pTrue := IntWalk.i64_in _ (by omega)
    have s3 : IntKind.i64.wrap (m.pTrue - m.pShown - p.pTrue + p.pShown) = m.pTrue - m.pShown - p.pTrue + p.pShown := IntWalk.i64_in _ (by omega)
    go_wp2
    go_quiet (fail)
    have hb2 := drewN_b hbl nq
    have hrow2 : (wr.drewN nq).ownsRow w.heap.size 3 1 (.slice aoo (stepsTo xs j k).length capo) (stepsTo xs j k).length ((stepsTo xs j k).map (Value.int .i64)) := hrow
    have hsz2 : w.heap.size ≤ (wr.drewN nq).heap.size := hsz
    have d4 : -4000000 ≤ m.pTrue - m.pShown - p.pTrue + p.pShown ∧ m.pTrue - m.pShown - p.pTrue + p.pShown ≤ 4000000 := by omega
    generalize wr.drewN nq = w3 at *
    generalize m.pTrue - m.pShown - p.pTrue + p.pShown = d at *
    clear s1 s2 s3 c0 c1 d0 d1 hrow hbl
    have app : ∀ (hf : farT xs j k = true), stepsTo xs j (k + 1) = stepsTo xs j k ++ [(k : Int)] := fun hf => by rw [stepsTo, if_pos hf]
    have nap : ∀ (hf : ¬ farT xs j k = true), stepsTo xs j (k + 1) = stepsTo xs j k := fun hf => by rw [stepsTo, if_neg hf]
    have HAP := Lib.hid app
    have HNA := Lib.hid nap
    clear app nap
    generalize hil : stepsTo xs j k = il at *
    have HIL := Lib.hid hil
    clear hil
    by_cases f1 : j < d
    · have HS : Hid (stepsTo xs j (k + 1) = il ++ [(k : Int)]) := Lib.hid (HAP.out (by rw [HFT.out, decide_eq_true f1]; rfl))
      go_wp2_with (at_builtin; refine wpList_append_own _ rfl _ _ 22 rfl w.heap.size 3 ti (.int .i64 0) 1 8 Try.underlying22 hi hz0 hz1 hz2 rfl (by decide) _ il.length (il.map (Value.int .i64)) rfl (hrow2.alloc _) ⟨w3.heap.size, 0, none⟩ 1 1 [.int .i64 (k : Int)] rfl rfl (cell_one_new _ _ _) (by simp [Value.oneCell']) (by unfold maxLen; omega) (by omega) (by first | omega | (simp; done) | (simp; omega)) ?_; intro v' w5 hown hgrow _)
      have hrow3 : w5.ownsRow w.heap.size 3 1 v' (il ++ [(k : Int)]).length ((il ++ [(k : Int)]).map (Value.int .i64)) := by simpa using hown
      have hb5 : Below w.heap.size w w5 := (hb2.alloc hsz2 (.cells #[.int .i64 (k : Int)] 3)).grown hgrow (by simp; omega) (fun g e => (hrow2.lt g e).1)
      obtain ⟨a3, c3, rfl⟩ := row_form hrow3
      clear hown hgrow
      go_wp2
      go_roundw
      case rel => exact ⟨k + 1, _, ⟨by omega, by omega⟩, by go_num, rfl, by rw [HS.out]; exact hrow3, ⟨a3, c3, by rw [HS.out]⟩, hb5⟩
      case measure => simp [intOf]; omega
    · by_cases f2 : j < -d
      · have HS : Hid (stepsTo xs j (k + 1) = il ++ [(k : Int)]) := Lib.hid (HAP.out (by rw [HFT.out, decide_eq_false f1, decide_eq_true f2]; rfl))
        have s9 : IntKind.i64.wrap (-d) = -d := IntWalk.i64_in _ (by omega)
        go_wp2_with (at_builtin; refine wpList_append_own _ rfl _ _ 22 rfl w.heap.size 3 ti (.int .i64 0) 1 8 Try.underlying22 hi hz0 hz1 hz2 rfl (by decide) _ il.length (il.map (Value.int .i64)) rfl (hrow2.alloc _) ⟨w3.heap.size, 0, none⟩ 1 1 [.int .i64 (k : Int)] rfl rfl (cell_one_new _ _ _) (by simp [Value.oneCell']) (by unfold maxLen; omega) (by omega) (by first | omega | (simp; done) | (simp; omega)) ?_; intro v' w5 hown hgrow _)
        have hrow3 : w5.ownsRow w.heap.size 3 1 v' (il ++ [(k : Int)]).length ((il ++ [(k : Int)]).map (Value.int .i64)) := by simpa using hown
        have hb5 : Below w.heap.size w w5 := (hb2.alloc hsz2 (.cells #[.int .i64 (k : Int)] 3)).grown hgrow (by simp; omega) (fun g e => (hrow2.lt g e).1)
        obtain ⟨a3, c3, rfl⟩ := row_form hrow3
        clear hown hgrow
        go_wp2
        go_roundw
        case rel => exact ⟨k + 1, _, ⟨by omega, by omega⟩, by go_num, rfl, by rw [HS.out]; exact hrow3, ⟨a3, c3, by rw [HS.out]⟩, hb5⟩
        case measure => simp [intOf]; omega
      · have HS : Hid (stepsTo xs j (k + 1) = il) := Lib.hid (HNA.out (by rw [HFT.out, decide_eq_false f1, decide_eq_false f2]; simp))
        have s9 : IntKind.i64.wrap (-d) = -d := IntWalk.i64_in _ (by omega)
        go_wp2
        go_roundw
        case rel => exact ⟨k + 1, _, ⟨by omega, by omega⟩, by go_num, rfl, by rw [HS.out]; exact hrow2, ⟨aoo, capo, by rw [HS.out]⟩, hb2⟩
        case measure => simp [intOf]; omega
end Go.Proofs.Ytklilfbokpljkac
