/- Tracks: the program's offsets. -/
import Derived.Test.YtklilfbokpljkacTkI
import Derived.Test.YtklilfbokpljkacTkS
import Derived.Test.YtklilfbokpljkacRed
import Derived.Lib.QuietBelow
import Derived.BigQuiet
namespace Go.Proofs.Ytklilfbokpljkac
open Go.ChangeShapes Go.WideShapes Go.ChangeAt Go.RowKit Go.ChangeMaps Go.Sort
set_option linter.unusedSimpArgs false
set_option linter.unusedVariables false
set_option linter.unusedSimpArgs false
set_option linter.unusedVariables false

theorem implOff (m : GClockMark) (w : World) (ht : tickM m) :
    Calls Try.prog 103 #[.agg #[.int .i64 m.pShown, .int .i64 m.pTrue]] w fun e w' => e = .returned (.int .i64 (m.pTrue - m.pShown)) ∧ Below w.heap.size w w' := by
  unfold tickM at ht
  have N1 := (Below.refl w.heap.size w).alloc (Nat.le_refl _) (.cells #[.int .i64 m.pShown, .int .i64 m.pTrue] 50)
  have bx := Bx.new w [.int .i64 m.pShown, .int .i64 m.pTrue] 50
  have d0 := bx.2 0 _ rfl
  have d1 := bx.2 1 _ rfl
  have s1 : IntKind.i64.wrap (m.pTrue - m.pShown) = m.pTrue - m.pShown := IntWalk.i64_in _ (by omega)
  go_enter Try.func103, Try.ntmps103
  go_wp2
  go_ret
  exact ⟨rfl, N1⟩
theorem mxT_ge (a b : Int) : (if b > a then b else a) = mxT a b := rfl
set_option maxRecDepth 100000 in
set_option maxHeartbeats 2000000 in
theorem implSpan (xs : List GClockMark) (v : Value) (w : World) (B : Nat) (h : ClockMarkL w B v xs) (hB : B ≤ w.heap.size) (hn : szsClockMark xs ≤ 1048576) (hw : ∀ m ∈ xs, wfClockMark m) :
    Calls Try.prog 42 #[v] w fun e w' => e = .returned (.tuple #[.int .i64 (loSp xs), .int .i64 (hiSp xs), .bool (goodTk xs)]) ∧ Below w.heap.size w w' := by
  by_cases hg : goodTk xs = true
  case neg =>
    have hg : goodTk xs = false := by simpa using hg
    have C := Lib.hid (implGoodTk xs v w B h hB false hg)
    have HF := Lib.hid (noSp hg)
    obtain ⟨ao, cap, rfl⟩ := h.form
    clear h hg
    go_enter Try.func42, Try.ntmps42
    go_wp2_with fail
    refine C.out.mono ?_
    rintro e w1 ⟨rfl, hb⟩
    go_wp2
    go_ret3
    exact ⟨HF.out, hb⟩
  have C := Lib.hid (implGoodTk xs v w B h hB true hg)
  have HK := Lib.hid (goodTk_yes hg)
  have HY := Lib.hid (fun a b => yesSp (a := a) (b := b) hg)
  have hl2 := HK.out.1.1
  have hl10 : (xs.length : Int) ≤ 10 := by have := HK.out.1.2; omega
  obtain ⟨ao, cap, rfl, hcap, hmax, -, hc⟩ := h
  unfold maxLen at hmax
  have HC := Lib.hid hc
  clear hc hg
  obtain ⟨m0, hm0⟩ := get_of_lt (l := xs) (k := 0) (by omega)
  obtain ⟨b, off, rfl, hbb, hcell⟩ := HC.out 0 m0 hm0
  have tk0 := okTk_tick HK.out hm0
  have HL1 := Lib.hid (loT_one hm0)
  have d0 : w.cell? ⟨b, off, none⟩ = some (.int .i64 m0.pShown) := by have := hcell 0 _ rfl; simpa using this
  have d1 : w.cell? ⟨b, off + 1, none⟩ = some (.int .i64 m0.pTrue) := by have := hcell 1 _ rfl; simpa using this
  clear hm0 hcell
  have g0 : (0 : Int) < (xs.length : Int) := by omega
  have g1 : 0 < xs.length := by omega
  have hcap2 : 2 ≤ cap := by omega
  have hcap3 : ¬ cap = 1 := by omega
  have hl1 : (1 : Int) ≤ (xs.length : Int) := by omega
  go_enter Try.func42, Try.ntmps42
  go_wp2_with fail
  refine C.out.mono ?_
  rintro e w1 ⟨rfl, hb⟩
  have Q0 := cellOf hb (by omega) d0
  have Q1 := cellOf hb (by omega) d1
  have cc : ∀ d os, Calls Try.prog 103 #[.agg #[.int .i64 m0.pShown, .int .i64 m0.pTrue]] (grow (redrawn (w1) d) os) fun e w'' => e = .returned (.int .i64 (m0.pTrue - m0.pShown)) ∧ ∃ p : Regrown, w'' = grow (redrawn (w1) p.d) p.os := fun d os => Calls.regrown_of (implOff m0 _ tk0)
  have r0 := cell_regrown Q0
  have r1 := cell_regrown Q1
  clear d0 d1
  go_wp2
  refine wp_region_quiet_below (by kernel_rfl) (by kernel_rfl) ?_
  repeat (go_big_quiet_step (exact cc _ _))
  refine wpQuiet_nil ?_
  intro _ hw'
  obtain ⟨⟨dq, osq⟩, hw''⟩ := hw'
  subst hw''
  have hb2 := below_regrown (w1) dq osq
  generalize grow (redrawn (w1) dq) osq = w2 at *
  clear Q0 Q1 r0 r1 cc
  have CI := hb.trans (hb2.mono hb.size)
  have o0 : m0.pTrue - m0.pShown = offT m0 := rfl
  rw [o0]
  generalize offT m0 = of0 at *
  clear o0
  go_wp2
  go_loopw [5, 6, 23] (fun l h i wr => ∃ k : Nat, k ≤ xs.length - 1 ∧ i = .int .i64 k ∧ l = .int .i64 (loT (xs.take (k + 1))) ∧ h = .int .i64 (hiT (xs.take (k + 1))) ∧ Below w.heap.size w wr) (fun _ _ i _ => xs.length - (intOf i).toNat)
  case atStart => exact ⟨0, Nat.zero_le _, rfl, by rw [Nat.zero_add, HL1.out.1], by rw [Nat.zero_add, HL1.out.2], CI⟩
  case round =>
    obtain ⟨k, hk, rfl, rfl, rfl, hbl⟩ := hrel
    have hsz := hbl.size
    by_cases hlt : k < xs.length - 1
    case neg =>
      have hkk : k + 1 = xs.length := by omega
      have hk2 : ¬ (k : Int) < (xs.length : Int) - 1 := by omega
      rw [hkk, List.take_length]
      have HF := Lib.hid (HY.out _ _ rfl rfl)
      clear hkk
      generalize loT xs = lo at *
      generalize hiT xs = hi at *
      go_wp2
      go_ret3
      exact ⟨HF.out, hbl⟩
    obtain ⟨m, hm⟩ := get_of_lt (l := xs) (k := k + 1) (by omega)
    obtain ⟨b', off', e9, -, hcell⟩ := HC.out (k + 1) m hm
    simp only [Option.some.injEq, Addr.mk.injEq, and_true] at e9
    obtain ⟨rfl, rfl⟩ := e9
    have tk := okTk_tick HK.out hm
    have c0 : wr.cell? ⟨b, off + 2 + k * 2, none⟩ = some (.int .i64 m.pShown) := cellOf hbl (by omega) (by have := hcell 0 _ rfl; rwa [show off + (k + 1) * 2 + 0 = off + 2 + k * 2 + 0 by omega] at this)
    have c1 : wr.cell? ⟨b, off + 2 + k * 2 + 1, none⟩ = some (.int .i64 m.pTrue) := cellOf hbl (by omega) (by have := hcell 1 _ rfl; rwa [show off + (k + 1) * 2 + 1 = off + 2 + k * 2 + 1 by omega] at this)
    have hi0 : (0 : Int) ≤ (k : Int) := by omega
    have hlt2 : (k : Int) < (xs.length : Int) - 1 := by omega
    have HLS := Lib.hid (loT_snoc hm (by omega))
    have HHS := Lib.hid (hiT_snoc hm (by omega))
    generalize loT (xs.take (k + 1)) = lo at *
    generalize hiT (xs.take (k + 1)) = hi at *
    clear hm hcell
    have N1 := (Below.refl wr.heap.size wr).alloc (Nat.le_refl _) (.cells #[.int .i64 m.pShown, .int .i64 m.pTrue] 50)
    have bx := Bx.new wr [.int .i64 m.pShown, .int .i64 m.pTrue] 50
    have Q0 := bx.2 0 _ rfl
    have Q1 := bx.2 1 _ rfl
    have cc : ∀ d os, Calls Try.prog 103 #[.agg #[.int .i64 m.pShown, .int .i64 m.pTrue]] (grow (redrawn (wr.alloc (.cells #[.int .i64 m.pShown, .int .i64 m.pTrue] 50)) d) os) fun e w'' => e = .returned (.int .i64 (m.pTrue - m.pShown)) ∧ ∃ p : Regrown, w'' = grow (redrawn (wr.alloc (.cells #[.int .i64 m.pShown, .int .i64 m.pTrue] 50)) p.d) p.os := fun d os => Calls.regrown_of (implOff m _ tk)
    have r0 := cell_regrown Q0
    have r1 := cell_regrown Q1
    go_wp2
    refine wp_region_quiet_below (by kernel_rfl) (by kernel_rfl) ?_
    repeat (go_big_quiet_step (exact cc _ _))
    refine wpQuiet_nil ?_
    intro _ hw'
    obtain ⟨⟨dq, osq⟩, hw''⟩ := hw'
    subst hw''
    have hb3 := below_regrown (wr.alloc (.cells #[.int .i64 m.pShown, .int .i64 m.pTrue] 50)) dq osq
    generalize grow (redrawn (wr.alloc (.cells #[.int .i64 m.pShown, .int .i64 m.pTrue] 50)) dq) osq = w3 at *
    have C3 := hbl.trans ((N1.trans (hb3.mono (by simp))).mono hsz)
    clear hb3 Q0 Q1 r0 r1 cc N1 bx
    go_wp2
    go_roundw
    case rel => exact ⟨k + 1, by omega, by go_num, by rw [HLS.out]; rfl, by rw [HHS.out]; rfl, C3⟩
    case measure => simp [intOf]; omega
theorem farT_ab {xs : List GClockMark} {j d : Int} {k : Nat} (hk : 1 ≤ k) (hd : dOff xs k = d) : farT xs j k = decide (j < ab d) := by
  unfold farT
  rw [hd, decide_eq_true hk]
  unfold ab
  by_cases h0 : d < 0
  · rw [if_pos h0, Bool.true_and]
    by_cases h1 : j < -d
    · rw [decide_eq_true h1, Bool.or_true]
    · rw [decide_eq_false h1, decide_eq_false (show ¬ j < d by omega)]; rfl
  · rw [if_neg h0, Bool.true_and]
    by_cases h1 : j < d
    · rw [decide_eq_true h1, Bool.true_or]
    · rw [decide_eq_false h1, decide_eq_false (show ¬ j < -d by omega)]; rfl
set_option maxRecDepth 100000 in
set_option maxHeartbeats 2000000 in
theorem implStp (xs : List GClockMark) (v : Value) (j : Int) (w : World) (B : Nat) (h : ClockMarkL w B v xs) (hB : B ≤ w.heap.size) (hn : szsClockMark xs ≤ 1048576) (hw : ∀ m ∈ xs, wfClockMark m) (_ : I64 j) :
    Calls Try.prog 46 #[v, .int .i64 j] w fun e w' => ∃ v', e = .returned (.tuple #[v', .bool (okStp xs j)]) ∧ Own (Value.int .i64) w' w.heap.size w'.heap.size v' (resStp xs j) ∧ Below w.heap.size w w' := by
  unfold resStp
  cases hg : goodTk xs with
  | false =>
    have C := Lib.hid (implGoodTk xs v w B h hB false hg)
    have HO : Hid (okStp xs j = false) := Lib.hid (by unfold okStp; rw [hg]; rfl)
    clear hg
    rw [HO.out]
    obtain ⟨ao, cap, rfl⟩ := h.form
    clear h
    go_enter Try.func46, Try.ntmps46
    go_wp2_with fail
    refine C.out.mono ?_
    rintro e w1 ⟨rfl, hb⟩
    have hr1 := row_empty w1 (base := w.heap.size) 3 1 hb.size
    have C1 := hb.alloc hb.size (.cells #[] 3)
    go_wp2
    go_ret2
    exact ⟨_, rfl, Own.of_row (xs := ([] : List Int)) hr1, C1⟩
  | true =>
  have C := Lib.hid (implGoodTk xs v w B h hB true hg)
  have HK := Lib.hid (goodTk_yes hg)
  cases ht : tickB j with
  | false =>
    have HO : Hid (okStp xs j = false) := Lib.hid (by unfold okStp; rw [hg, ht]; rfl)
    have hj := tickB_no ht
    clear hg ht
    rw [HO.out]
    obtain ⟨ao, cap, rfl⟩ := h.form
    clear h
    by_cases j0 : j < 0
    · go_enter Try.func46, Try.ntmps46
      go_wp2_with fail
      refine C.out.mono ?_
      rintro e w1 ⟨rfl, hb⟩
      have hr1 := row_empty w1 (base := w.heap.size) 3 1 hb.size
      have C1 := hb.alloc hb.size (.cells #[] 3)
      go_wp2
      go_ret2
      exact ⟨_, rfl, Own.of_row (xs := ([] : List Int)) hr1, C1⟩
    · have j1 : 1000000 < j := by omega
      clear hj
      go_enter Try.func46, Try.ntmps46
      go_wp2_with fail
      refine C.out.mono ?_
      rintro e w1 ⟨rfl, hb⟩
      have hr1 := row_empty w1 (base := w.heap.size) 3 1 hb.size
      have C1 := hb.alloc hb.size (.cells #[] 3)
      go_wp2
      go_ret2
      exact ⟨_, rfl, Own.of_row (xs := ([] : List Int)) hr1, C1⟩
  | true =>
  obtain ⟨j0, j1⟩ := tickB_yes ht
  have HO : Hid (okStp xs j = true) := Lib.hid (by unfold okStp; rw [hg, ht]; rfl)
  clear hg ht
  rw [HO.out]
  have hl2 := HK.out.1.1
  have hl10 : (xs.length : Int) ≤ 10 := by have := HK.out.1.2; omega
  obtain ⟨ao, cap, rfl, hcap, hmax, -, hc⟩ := h
  unfold maxLen at hmax
  have HC := Lib.hid hc
  clear hc
  obtain ⟨ti, hi, hz0, hz1, hz2⟩ := info_parts infoInt
  have jn0 : ¬ j < 0 := by omega
  have jn1 : ¬ 1000000 < j := by omega
  go_enter Try.func46, Try.ntmps46
  go_wp2_with fail
  refine C.out.mono ?_
  rintro e w1 ⟨rfl, hb⟩
  have hr1 := row_empty w1 (base := w.heap.size) 3 1 hb.size
  have C1 := hb.alloc hb.size (.cells #[] 3)
  go_wp2
  go_loopw [6, 7] (fun o i wr => ∃ (k : Nat) (v : Value), (1 ≤ k ∧ k ≤ xs.length) ∧ i = .int .i64 k ∧ o = v ∧ wr.ownsRow w.heap.size 3 1 v (stepsTo xs j k).length ((stepsTo xs j k).map (Value.int .i64)) ∧ (∃ ao cap, v = .slice ao (stepsTo xs j k).length cap) ∧ Below w.heap.size w wr)
    (fun _ i _ => xs.length - (intOf i).toNat)
  case atStart => exact ⟨1, _, ⟨Nat.le_refl _, by omega⟩, rfl, rfl, by rw [stepsTo_one]; exact hr1, ⟨some ⟨w1.heap.size, 0, none⟩, 0, by rw [stepsTo_one]; rfl⟩, C1⟩
  case round =>
    obtain ⟨k, _, ⟨hk1, hk2⟩, rfl, rfl, hrow, ⟨aoo, capo, rfl⟩, hbl⟩ := hrel
    clear hr1 C1 hb
    have hsz := hbl.size
    have hcl := stepsTo_len xs j k
    by_cases hlt : k < xs.length
    case neg =>
      obtain rfl : k = xs.length := by omega
      generalize hil : stepsTo xs j xs.length = il at *
      have HIL := Lib.hid hil
      clear hil
      go_wp2
      go_ret2
      refine ⟨.slice aoo il.length capo, rfl, ?_, hbl⟩
      show Own _ _ _ _ _ (stepsTo xs j xs.length)
      rw [HIL.out]
      exact Own.of_row (xs := il) hrow
    obtain ⟨m, hm⟩ := get_of_lt hlt
    obtain ⟨p, hp⟩ := get_of_lt (l := xs) (k := k - 1) (by omega)
    obtain ⟨b, off, rfl, hbb, hcell⟩ := HC.out k m hm
    obtain ⟨b', off', e9, -, hcell2⟩ := HC.out (k - 1) p hp
    simp only [Option.some.injEq, Addr.mk.injEq, and_true] at e9
    obtain ⟨rfl, rfl⟩ := e9
    have tk := okTk_tick HK.out hm
    have tp := okTk_tick HK.out hp
    obtain ⟨⟨u0, u1⟩, u2, u3⟩ := okTk_tick HK.out hm
    obtain ⟨⟨v0, v1⟩, v2, v3⟩ := okTk_tick HK.out hp
    have c0 : wr.cell? ⟨b, off + k * 2, none⟩ = some (.int .i64 m.pShown) := cellOf hbl (by omega) (hcell 0 _ rfl)
    have c1 : wr.cell? ⟨b, off + k * 2 + 1, none⟩ = some (.int .i64 m.pTrue) := cellOf hbl (by omega) (hcell 1 _ rfl)
    have d0 : wr.cell? ⟨b, off + (k - 1) * 2, none⟩ = some (.int .i64 p.pShown) := cellOf hbl (by omega) (hcell2 0 _ rfl)
    have d1 : wr.cell? ⟨b, off + (k - 1) * 2 + 1, none⟩ = some (.int .i64 p.pTrue) := cellOf hbl (by omega) (hcell2 1 _ rfl)
    have HD : Hid (dOff xs k = m.pTrue - m.pShown - (p.pTrue - p.pShown)) := Lib.hid (by unfold dOff; rw [hp, hm]; show m.pTrue - m.pShown - p.pTrue + p.pShown = _; omega)
    have HFT := Lib.hid (farT_ab (j := j) hk1 HD.out)
    clear hm hp hcell hcell2
    have mp0 : (0 : Int) ≤ (k : Int) := by omega
    have mp1 : (k : Int) < (xs.length : Int) := by omega
    have mp2 : (0 : Int) ≤ (k : Int) - 1 := by omega
    have mp3 : (k : Int) - 1 < (xs.length : Int) := by omega
    have mp4 : ((k : Int) - 1).toNat = k - 1 := by omega
    have mp5 : IntKind.i64.wrap ((k : Int) - 1) = (k : Int) - 1 := IntWalk.i64_in _ (by omega)
    have mp6 : (1 : Int) ≤ (k : Int) := by omega
    have s3 : IntKind.i64.wrap (m.pTrue - m.pShown - (p.pTrue - p.pShown)) = m.pTrue - m.pShown - (p.pTrue - p.pShown) := IntWalk.i64_in _ (by omega)
    obtain ⟨y, hy⟩ : ∃ y, ab (m.pTrue - m.pShown - (p.pTrue - p.pShown)) = y := ⟨_, rfl⟩
    have cm : ∀ d os, Calls Try.prog 103 #[.agg #[.int .i64 m.pShown, .int .i64 m.pTrue]] (grow (redrawn (wr) d) os) fun e w'' => e = .returned (.int .i64 (m.pTrue - m.pShown)) ∧ ∃ p : Regrown, w'' = grow (redrawn (wr) p.d) p.os := fun d os => Calls.regrown_of (implOff m _ tk)
    have cp : ∀ d os, Calls Try.prog 103 #[.agg #[.int .i64 p.pShown, .int .i64 p.pTrue]] (grow (redrawn (wr) d) os) fun e w'' => e = .returned (.int .i64 (p.pTrue - p.pShown)) ∧ ∃ p : Regrown, w'' = grow (redrawn (wr) p.d) p.os := fun d os => Calls.regrown_of (implOff p _ tp)
    have cg : ∀ d os, Calls Try.prog 81 #[.int .i64 (m.pTrue - m.pShown - (p.pTrue - p.pShown))] (grow (redrawn (wr) d) os) fun e w'' => e = .returned (.int .i64 y) ∧ ∃ p : Regrown, w'' = grow (redrawn (wr) p.d) p.os := fun d os => Calls.regrown_of ((magAny _ y _ (by omega) (by omega) hy).mono (fun _ _ q => ⟨q.1, by rw [q.2]; exact Below.refl _ _⟩))
    have r0 := cell_regrown c0
    have r1 := cell_regrown c1
    have r2 := cell_regrown d0
    have r3 := cell_regrown d1
    rw [hy] at HFT
    clear hy
    go_wp2
    refine wp_region_quiet_below (by kernel_rfl) (by kernel_rfl) ?_
    repeat (go_big_quiet_step (first | with_reducible exact cm _ _ | with_reducible exact cp _ _ | with_reducible exact cg _ _))
    refine wpQuiet_nil ?_
    intro _ hw'
    obtain ⟨⟨dq, osq⟩, hw''⟩ := hw'
    subst hw''
    have hb3 := below_regrown (wr) dq osq
    generalize grow (redrawn (wr) dq) osq = w3 at *
    have hb2 := hbl.trans (hb3.mono hsz)
    have hrow2 := row_below hrow hb3
    have hsz2 : w.heap.size ≤ w3.heap.size := hb2.size
    clear s3 c0 c1 d0 d1 r0 r1 r2 r3 cm cp cg hrow hbl hb3
    have HAP : Hid (∀ (hf : farT xs j k = true), stepsTo xs j (k + 1) = stepsTo xs j k ++ [(k : Int)]) := Lib.hid (fun hf => by rw [stepsTo, if_pos hf])
    have HNA : Hid (∀ (hf : ¬ farT xs j k = true), stepsTo xs j (k + 1) = stepsTo xs j k) := Lib.hid (fun hf => by rw [stepsTo, if_neg hf])
    generalize hil : stepsTo xs j k = il at *
    have HIL := Lib.hid hil
    clear hil
    by_cases f1 : j < y
    · have HS : Hid (stepsTo xs j (k + 1) = il ++ [(k : Int)]) := Lib.hid (HAP.out (by rw [HFT.out, decide_eq_true f1]))
      go_wp2_with (at_builtin; refine wpList_append_own _ rfl _ _ 22 rfl w.heap.size 3 ti (.int .i64 0) 1 8 Try.underlying22 hi hz0 hz1 hz2 rfl (by decide) _ il.length (il.map (Value.int .i64)) rfl (hrow2.alloc _) ⟨w3.heap.size, 0, none⟩ 1 1 [.int .i64 (k : Int)] rfl rfl (cell_one_new _ _ _) (by simp [Value.oneCell']) (by unfold maxLen; omega) (by omega) (by first | omega | (simp; done) | (simp; omega)) ?_; intro v' w5 hown hgrow _)
      have hrow3 : w5.ownsRow w.heap.size 3 1 v' (il ++ [(k : Int)]).length ((il ++ [(k : Int)]).map (Value.int .i64)) := by simpa using hown
      have hb5 : Below w.heap.size w w5 := (hb2.alloc hsz2 (.cells #[.int .i64 (k : Int)] 3)).grown hgrow (by simp; omega) (fun g e => (hrow2.lt g e).1)
      obtain ⟨a3, c3, rfl⟩ := row_form hrow3
      clear hown hgrow
      go_wp2
      go_roundw
      case rel => exact ⟨k + 1, _, ⟨by omega, by omega⟩, by go_num, rfl, by rw [HS.out]; exact hrow3, ⟨a3, c3, by rw [HS.out]⟩, hb5⟩
      case measure => simp [intOf]; omega
    · have HS : Hid (stepsTo xs j (k + 1) = il) := Lib.hid (HNA.out (by rw [HFT.out, decide_eq_false f1]; simp))
      go_wp2
      go_roundw
      case rel => exact ⟨k + 1, _, ⟨by omega, by omega⟩, by go_num, rfl, by rw [HS.out]; exact hrow2, ⟨aoo, capo, by rw [HS.out]⟩, hb2⟩
      case measure => simp [intOf]; omega
end Go.Proofs.Ytklilfbokpljkac
