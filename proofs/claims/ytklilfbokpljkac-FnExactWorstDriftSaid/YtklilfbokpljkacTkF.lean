/- Drifts of a track: the program. -/
import Derived.Test.YtklilfbokpljkacTkQ
import Derived.Test.YtklilfbokpljkacTkE
namespace Go.Proofs.Ytklilfbokpljkac
open Go.ChangeShapes Go.WideShapes Go.ChangeAt Go.RowKit Go.ChangeMaps Go.Sort
set_option linter.unusedSimpArgs false
set_option linter.unusedVariables false
set_option linter.unusedSimpArgs false
set_option linter.unusedVariables false

set_option maxRecDepth 100000 in
set_option maxHeartbeats 2000000 in
theorem implDrf (xs : List GClockMark) (v : Value) (w : World) (B : Nat) (h : ClockMarkL w B v xs) (hB : B ≤ w.heap.size) (hn : szsClockMark xs ≤ 1048576) (hw : ∀ m ∈ xs, wfClockMark m) :
    Calls Try.prog 52 #[v] w fun e w' => ∃ v', e = .returned (.tuple #[v', .bool (goodTk xs)]) ∧ DriftO w' w.heap.size w'.heap.size v' (resDrf xs) ∧ Below w.heap.size w w' := by
  unfold resDrf
  cases hg : goodTk xs with
  | false =>
    have C := Lib.hid (implGoodTk xs v w B h hB false hg)
    clear hg
    obtain ⟨ao, cap, rfl⟩ := h.form
    clear h
    go_enter Try.func52, Try.ntmps52
    go_wp2_with fail
    refine C.out.mono ?_
    rintro e w1 ⟨rfl, hb⟩
    have hr1 := rowK_empty w1 (base := w.heap.size) 75 2 hb.size
    have C1 := hb.alloc hb.size (.cells #[] 75)
    go_wp2
    go_ret2
    exact ⟨_, rfl, OwnK.of_row encDrift_len (by omega) (xs := []) hr1, C1⟩
  | true =>
  have C := Lib.hid (implGoodTk xs v w B h hB true hg)
  have HK := Lib.hid (goodTk_yes hg)
  clear hg
  have hl2 := HK.out.1.1
  have hl10 : (xs.length : Int) ≤ 10 := by have := HK.out.1.2; omega
  obtain ⟨ao, cap, rfl, hcap, hmax, -, hc⟩ := h
  unfold maxLen at hmax
  have HC := Lib.hid hc
  clear hc
  obtain ⟨m0, hm0⟩ := get_of_lt (l := xs) (k := 0) (by omega)
  obtain ⟨b, off, rfl, hbb, -⟩ := HC.out 0 m0 hm0
  clear hm0
  obtain ⟨ti, hi, hz0, hz1, hz2⟩ := info_parts info_Drift
  have hcap2 : 2 ≤ cap := by omega
  have hcap3 : ¬ cap = 1 := by omega
  have hl1 : (1 : Int) ≤ (xs.length : Int) := by omega
  go_enter Try.func52, Try.ntmps52
  go_wp2_with fail
  refine C.out.mono ?_
  rintro e w1 ⟨rfl, hb⟩
  have hr1 := rowK_empty w1 (base := w.heap.size) 75 2 hb.size
  have C1 := hb.alloc hb.size (.cells #[] 75)
  clear hb
  go_wp2
  go_loopw [4, 17] (fun o i wr => ∃ (k : Nat) (v : Value), k ≤ xs.length - 1 ∧ i = .int .i64 k ∧ o = v ∧ wr.ownsRow w.heap.size 75 2 v k (((driftsL xs).take k).flatMap encDrift) ∧ (∃ ao cap, v = .slice ao k cap) ∧ Below w.heap.size w wr)
    (fun _ i _ => xs.length - (intOf i).toNat)
  case atStart => exact ⟨0, _, Nat.zero_le _, rfl, rfl, hr1, ⟨some ⟨w1.heap.size, 0, none⟩, 0, rfl⟩, C1⟩
  case round =>
    obtain ⟨k, _, hk, rfl, rfl, hrow, ⟨aoo, capo, rfl⟩, hbl⟩ := hrel
    clear hr1 C1
    have hsz := hbl.size
    by_cases hlt : k < xs.length - 1
    case neg =>
      obtain rfl : k = xs.length - 1 := by omega
      have hk2 : ¬ (((xs.length - 1 : Nat)) : Int) < (xs.length : Int) - 1 := by omega
      have HE : Hid ((driftsL xs).take (xs.length - 1) = driftsL xs) := Lib.hid (List.take_of_length_le (by rw [driftsL_len]; omega))
      rw [HE.out] at hrow
      generalize hil : driftsL xs = il at *
      have HIL := Lib.hid hil
      clear hil
      go_wp2
      go_ret2
      refine ⟨.slice aoo (xs.length - 1) capo, rfl, ?_, hbl⟩
      show OwnK encDrift 2 _ _ _ _ (driftsL xs)
      rw [HIL.out]
      exact OwnK.of_row encDrift_len (by omega) hrow
    obtain ⟨m, hm⟩ := get_of_lt (l := xs) (k := k + 1) (by omega)
    obtain ⟨p, hp⟩ := get_of_lt (l := xs) (k := k) (by omega)
    obtain ⟨b', off', e9, -, hcell⟩ := HC.out (k + 1) m hm
    simp only [Option.some.injEq, Addr.mk.injEq, and_true] at e9
    obtain ⟨rfl, rfl⟩ := e9
    obtain ⟨b', off', e9, -, hcell2⟩ := HC.out k p hp
    simp only [Option.some.injEq, Addr.mk.injEq, and_true] at e9
    obtain ⟨rfl, rfl⟩ := e9
    obtain ⟨⟨u0, u1⟩, u2, u3⟩ := okTk_tick HK.out hm
    obtain ⟨⟨v0, v1⟩, v2, v3⟩ := okTk_tick HK.out hp
    obtain ⟨q1, q2⟩ := okTk_next (k := k + 1) HK.out hp hm (by omega)
    have c0 : wr.cell? ⟨b, off + 2 + k * 2, none⟩ = some (.int .i64 m.pShown) := cellOf hbl (by omega) (by have := hcell 0 _ rfl; rwa [show off + (k + 1) * 2 + 0 = off + 2 + k * 2 + 0 by omega] at this)
    have c1 : wr.cell? ⟨b, off + 2 + k * 2 + 1, none⟩ = some (.int .i64 m.pTrue) := cellOf hbl (by omega) (by have := hcell 1 _ rfl; rwa [show off + (k + 1) * 2 + 1 = off + 2 + k * 2 + 1 by omega] at this)
    have HT : Hid ((driftsL xs).take (k + 1) = (driftsL xs).take k ++ [drT p m]) := Lib.hid (driftsL_take hp hm)
    have N1 := (Below.refl wr.heap.size wr).alloc (Nat.le_refl _) (.cells #[.int .i64 m.pShown, .int .i64 m.pTrue] 50)
    obtain ⟨W1, hW1⟩ : ∃ W1, wr.alloc (.cells #[.int .i64 m.pShown, .int .i64 m.pTrue] 50) = W1 := ⟨_, rfl⟩
    have bx := Bx.new wr [.int .i64 m.pShown, .int .i64 m.pTrue] 50
    have hb1 : Below w.heap.size w W1 := hbl.trans (hW1 ▸ N1.mono hsz)
    have hrow1 : W1.ownsRow w.heap.size 75 2 (.slice aoo k capo) k (((driftsL xs).take k).flatMap encDrift) := hW1 ▸ hrow.alloc _
    have Q0 : W1.cell? ⟨wr.heap.size, 0, none⟩ = some (.int .i64 m.pShown) := hW1 ▸ bx.2 0 _ rfl
    have Q1 : W1.cell? ⟨wr.heap.size, 1, none⟩ = some (.int .i64 m.pTrue) := hW1 ▸ bx.2 1 _ rfl
    have d0 : W1.cell? ⟨b, off + k * 2, none⟩ = some (.int .i64 p.pShown) := cellOf hb1 (by omega) (hcell2 0 _ rfl)
    have d1 : W1.cell? ⟨b, off + k * 2 + 1, none⟩ = some (.int .i64 p.pTrue) := cellOf hb1 (by omega) (hcell2 1 _ rfl)
    clear hm hp hcell hcell2 N1 bx
    have mp0 : (0 : Int) ≤ (k : Int) := by omega
    have mp1 : (k : Int) < (xs.length : Int) := by omega
    have mp2 : (k : Int) < (xs.length : Int) - 1 := by omega
    have s1 : IntKind.i64.wrap (m.pTrue - p.pTrue) = m.pTrue - p.pTrue := IntWalk.i64_in _ (by omega)
    have s2 : IntKind.i64.wrap (m.pShown - p.pShown) = m.pShown - p.pShown := IntWalk.i64_in _ (by omega)
    have CR : Hid (∀ W, Calls Try.prog 83 #[.int .i64 (m.pTrue - p.pTrue), .int .i64 (m.pShown - p.pShown)] W fun e w' => e = .returned (.tuple #[.int .i64 (numR (m.pTrue - p.pTrue) (m.pShown - p.pShown)), .int .i64 (denR (m.pTrue - p.pTrue) (m.pShown - p.pShown))]) ∧ ∃ n, w' = W.drewN n) := Lib.hid (fun W => implRed (m.pTrue - p.pTrue) (m.pShown - p.pShown) W (by omega) (by omega) (by omega) (by omega))
    have HZ : Hid (drT p m = ⟨numR (m.pTrue - p.pTrue) (m.pShown - p.pShown), denR (m.pTrue - p.pTrue) (m.pShown - p.pShown)⟩) := Lib.hid rfl
    generalize numR (m.pTrue - p.pTrue) (m.pShown - p.pShown) = nu at *
    generalize denR (m.pTrue - p.pTrue) (m.pShown - p.pShown) = de at *
    go_wp2
    go_quiet ((go_at_call 83; exact Calls.quiet_of (CR.out _)))
    have hb2 := drewN_b hb1 nq
    have hrow2 : (W1.drewN nq).ownsRow w.heap.size 75 2 (.slice aoo k capo) k (((driftsL xs).take k).flatMap encDrift) := hrow1
    have hsz2 : w.heap.size ≤ (W1.drewN nq).heap.size := hb2.size
    clear hW1
    generalize W1.drewN nq = w3 at *
    clear s1 s2 c0 c1 d0 d1 Q0 Q1 hrow hrow1 hbl hb1 CR
    have HLn : Hid (((driftsL xs).take k).length = k) := Lib.hid (by rw [List.length_take, driftsL_len]; omega)
    have H1 := Lib.hid (oneDrift2 ((driftsL xs).take k))
    have HFl : Hid ((((driftsL xs).take k).flatMap encDrift).length = k * 2) := Lib.hid (by rw [flat_len encDrift_len, HLn.out])
    have HN : Hid (((driftsL xs).take k).flatMap encDrift ++ [.int .i64 nu, .int .i64 de] = ((driftsL xs).take (k + 1)).flatMap encDrift) := Lib.hid (by rw [HT.out, List.flatMap_append, HZ.out]; rfl)
    generalize ((driftsL xs).take k).flatMap encDrift = il at *
    go_wp2_with (at_builtin; refine wpList_append_own _ rfl _ _ 57 rfl w.heap.size 75 ti (.agg #[.int .i64 0, .int .i64 0]) 2 16 Try.underlying57 hi hz0 hz1 hz2 rfl (by decide) _ k il rfl (hrow2.alloc _) ⟨w3.heap.size, 0, none⟩ 1 1 [.int .i64 nu, .int .i64 de] rfl rfl (cell_two_new _ _ _ _) (by simp [Value.oneCell']) (by unfold maxLen; omega) (by omega) (by first | omega | (simp; done) | (simp; omega)) ?_; intro v' w5 hown hgrow _)
    have hrow3 : w5.ownsRow w.heap.size 75 2 v' (k + 1) (((driftsL xs).take (k + 1)).flatMap encDrift) := by rw [HN.out] at hown; exact hown
    have hb5 : Below w.heap.size w w5 := (hb2.alloc hsz2 (.cells #[.int .i64 nu, .int .i64 de] 75)).grown hgrow (by simp; omega) (fun g e => (hrow2.lt g e).1)
    obtain ⟨a3, c3, rfl⟩ := row_form hrow3
    clear hown hgrow
    go_roundw
    case rel => exact ⟨k + 1, _, by omega, by go_num, rfl, hrow3, ⟨a3, c3, rfl⟩, hb5⟩
    case measure => simp [intOf]; omega
theorem implWorse (d p : GDrift) (w : World) (hd : (0 ≤ d.pNum ∧ d.pNum ≤ 1000000) ∧ (1 ≤ d.pDen ∧ d.pDen ≤ 1000000)) (hp : (0 ≤ p.pNum ∧ p.pNum ≤ 1000000) ∧ (1 ≤ p.pDen ∧ p.pDen ≤ 1000000)) (u : Bool) (hu : decide (offD p * d.pDen < offD d * p.pDen) = u) :
    Calls Try.prog 113 #[.agg #[.int .i64 d.pNum, .int .i64 d.pDen], .agg #[.int .i64 p.pNum, .int .i64 p.pDen]] w fun e w' => e = .returned (.bool u) ∧ Below w.heap.size w w' := by
  have od := offD_bd hd
  have op := offD_bd hp
  have x1 := mul_bd od.1 od.2 (show 0 ≤ p.pDen by omega) hp.2.2
  have x2 := mul_bd op.1 op.2 (show 0 ≤ d.pDen by omega) hd.2.2
  rw [offD_ab, offD_ab] at hu
  rw [offD_ab d] at x1
  rw [offD_ab p] at x2
  obtain ⟨⟨n0, n1⟩, n2, n3⟩ := hd
  obtain ⟨⟨k0, k1⟩, k2, k3⟩ := hp
  have W1 := (Below.refl w.heap.size w).alloc (Nat.le_refl _) (.cells #[.int .i64 d.pNum, .int .i64 d.pDen] 75)
  have W2 := W1.alloc (by simp) (.cells #[.int .i64 p.pNum, .int .i64 p.pDen] 75)
  have ba := (Bx.new w [.int .i64 d.pNum, .int .i64 d.pDen] 75).alloc (.cells #[.int .i64 p.pNum, .int .i64 p.pDen] 75)
  have bb := Bx.new1 w (.cells #[.int .i64 d.pNum, .int .i64 d.pDen] 75) [.int .i64 p.pNum, .int .i64 p.pDen] 75
  have a0 := ba.2 0 _ rfl
  have a1 := ba.2 1 _ rfl
  have b0 := bb.2 0 _ rfl
  have b1 := bb.2 1 _ rfl
  have s1 : IntKind.i64.wrap (d.pNum - d.pDen) = d.pNum - d.pDen := IntWalk.i64_in _ (by omega)
  have s2 : IntKind.i64.wrap (p.pNum - p.pDen) = p.pNum - p.pDen := IntWalk.i64_in _ (by omega)
  obtain ⟨fd, hfd⟩ : ∃ y, ab (d.pNum - d.pDen) = y := ⟨_, rfl⟩
  obtain ⟨fp, hfp⟩ : ∃ y, ab (p.pNum - p.pDen) = y := ⟨_, rfl⟩
  have CD := Lib.hid (fun W => magAny (d.pNum - d.pDen) fd W (by omega) (by omega) hfd)
  have CP := Lib.hid (fun W => magAny (p.pNum - p.pDen) fp W (by omega) (by omega) hfp)
  rw [hfd, hfp] at hu
  rw [hfd] at x1
  rw [hfp] at x2
  have s3 : IntKind.i64.wrap (fd * p.pDen) = fd * p.pDen := IntWalk.i64_in _ (by omega)
  have s4 : IntKind.i64.wrap (fp * d.pDen) = fp * d.pDen := IntWalk.i64_in _ (by omega)
  have HU := Lib.hid hu
  clear hu hfd hfp x1 x2 od op
  go_enter Try.func113, Try.ntmps113
  go_wp2
  go_quiet ((first | (go_at_call 81; with_reducible exact Calls.quiet_of_same (CD.out _)) | (go_at_call 81; with_reducible exact Calls.quiet_of_same (CP.out _))))
  go_wp2
  go_ret
  exact ⟨ret_bool HU.out, drewN_b W2 _⟩
set_option maxRecDepth 100000 in
set_option maxHeartbeats 2000000 in
theorem implWD (xs : List GClockMark) (v : Value) (w : World) (B : Nat) (h : ClockMarkL w B v xs) (hB : B ≤ w.heap.size) (hn : szsClockMark xs ≤ 1048576) (hw : ∀ m ∈ xs, wfClockMark m) :
    Calls Try.prog 65 #[v] w fun e w' => e = .returned (.tuple #[.int .i64 (numWD xs), .bool (goodTk xs)]) ∧ Below w.heap.size w w' := by
  have C := implDrf xs v w B h hB hn hw
  unfold resDrf at C
  cases hg : goodTk xs with
  | false =>
    rw [hg] at C
    have C := Lib.hid C
    have HF := Lib.hid (noWD hg)
    rw [hg] at HF
    clear hg
    obtain ⟨ao, cap, rfl⟩ := h.form
    clear h
    go_enter Try.func65, Try.ntmps65
    go_wp2_with fail
    refine C.out.mono ?_
    rintro e w1 ⟨v', rfl, ho, hb⟩
    obtain ⟨ao', cap', rfl⟩ := ho.form
    go_wp2
    go_ret2
    exact ⟨HF.out, hb⟩
  | true =>
  rw [hg] at C
  have e9 : (if true = true then driftsL xs else []) = driftsL xs := rfl
  rw [e9] at C
  clear e9
  have C := Lib.hid C
  have HF := Lib.hid (fun a => yesWD (a := a) hg)
  rw [hg] at HF
  have hk := goodTk_yes hg
  have hl : (driftsL xs).length = xs.length - 1 := driftsL_len xs
  have hl2 := hk.1.1
  have hl10 := hk.1.2
  have HBD := Lib.hid (driftsL_bd hk.2.2 hk.2.1)
  have hd1 : 1 ≤ (driftsL xs).length := by omega
  have hd2 : ((driftsL xs).length : Int) ≤ 10 := by omega
  clear hg hk hl hl2 hl10
  obtain ⟨ao, cap, rfl⟩ := h.form
  clear h
  generalize driftsL xs = ds at *
  go_enter Try.func65, Try.ntmps65
  go_wp2_with fail
  refine C.out.mono ?_
  rintro e w1 ⟨v', rfl, ho, hb1⟩
  obtain ⟨ao', cap', rfl, hcap, hmax, -, hc⟩ := ho.lst
  have HC := Lib.hid hc
  clear hc ho
  go_wp2
  go_loopw [6, 18] (fun o i wr => ∃ k : Nat, k ≤ ds.length ∧ i = .int .i64 k ∧ o = .int .i64 (bestD ds k : Nat) ∧ Below w1.heap.size w1 wr)
    (fun _ i _ => ds.length - (intOf i).toNat)
  case atStart => exact ⟨0, Nat.zero_le _, rfl, rfl, Below.refl _ _⟩
  case round =>
    obtain ⟨k, hk2, rfl, rfl, hbl⟩ := hrel
    have hsz := hbl.size
    by_cases hlt : k < ds.length
    case neg =>
      obtain rfl : k = ds.length := by omega
      have HG := Lib.hid (HF.out _ rfl)
      generalize bestD ds ds.length = be at *
      go_wp2
      go_ret2
      exact ⟨HG.out, hb1.trans (hbl.mono hb1.size)⟩
    have hbe : bestD ds k < ds.length := by have := (bestD_le ds k).1; omega
    have HSU : Hid (bestD ds (k + 1) = if offD (ds.getD (bestD ds k) zD) * (ds.getD k zD).pDen < offD (ds.getD k zD) * (ds.getD (bestD ds k) zD).pDen then k else bestD ds k) := Lib.hid (by rw [bestD])
    generalize bestD ds k = be at *
    obtain ⟨m, hm⟩ := get_of_lt hlt
    obtain ⟨p, hp⟩ := get_of_lt (l := ds) (k := be) (by omega)
    have hmb := HBD.out m (List.mem_of_getElem? hm)
    have hpb := HBD.out p (List.mem_of_getElem? hp)
    obtain ⟨b, off, rfl, hbb, hcell⟩ := HC.out k m hm
    obtain ⟨b', off', e9, -, hcell2⟩ := HC.out be p hp
    simp only [Option.some.injEq, Addr.mk.injEq, and_true] at e9
    obtain ⟨rfl, rfl⟩ := e9
    rw [getD_of hm, getD_of hp] at HSU
    have c0 : wr.cell? ⟨b, off + k * 2, none⟩ = some (.int .i64 m.pNum) := cellOf hbl (by omega) (hcell 0 _ rfl)
    have c1 : wr.cell? ⟨b, off + k * 2 + 1, none⟩ = some (.int .i64 m.pDen) := cellOf hbl (by omega) (hcell 1 _ rfl)
    have N1 := (Below.refl wr.heap.size wr).alloc (Nat.le_refl _) (.cells #[.int .i64 m.pNum, .int .i64 m.pDen] 75)
    obtain ⟨W1, hW1⟩ : ∃ W1, wr.alloc (.cells #[.int .i64 m.pNum, .int .i64 m.pDen] 75) = W1 := ⟨_, rfl⟩
    have bx := Bx.new wr [.int .i64 m.pNum, .int .i64 m.pDen] 75
    have hbW : Below w1.heap.size w1 W1 := hbl.trans (hW1 ▸ N1.mono hsz)
    have Q0 : W1.cell? ⟨wr.heap.size, 0, none⟩ = some (.int .i64 m.pNum) := hW1 ▸ bx.2 0 _ rfl
    have Q1 : W1.cell? ⟨wr.heap.size, 1, none⟩ = some (.int .i64 m.pDen) := hW1 ▸ bx.2 1 _ rfl
    have d0 : W1.cell? ⟨b, off + be * 2, none⟩ = some (.int .i64 p.pNum) := cellOf hbW (by omega) (hcell2 0 _ rfl)
    have d1 : W1.cell? ⟨b, off + be * 2 + 1, none⟩ = some (.int .i64 p.pDen) := cellOf hbW (by omega) (hcell2 1 _ rfl)
    clear hm hp hcell hcell2 N1 bx
    have r0 := cell_regrown Q0
    have r1 := cell_regrown Q1
    have r2 := cell_regrown d0
    have r3 := cell_regrown d1
    have mp0 : (0 : Int) ≤ (k : Int) := by omega
    have mp1 : (k : Int) < (ds.length : Int) := by omega
    have mp2 : (0 : Int) ≤ (be : Int) := by omega
    have mp3 : (be : Int) < (ds.length : Int) := by omega
    by_cases f1 : offD p * m.pDen < offD m * p.pDen
    · rw [if_pos f1] at HSU
      have cw := fun d os => Calls.regrown_of (w := W1) (d := d) (os := os) (implWorse m p _ hmb hpb true (decide_eq_true f1))
      clear f1
      go_wp2
      refine wp_region_quiet_below (by kernel_rfl) (by kernel_rfl) ?_
      repeat (go_big_quiet_step (with_reducible exact cw _ _))
      refine wpQuiet_nil ?_
      intro _ hw'
      obtain ⟨⟨dq, osq⟩, hw''⟩ := hw'
      subst hw''
      have hb3 := below_regrown (W1) dq osq
      generalize grow (redrawn (W1) dq) osq = w3 at *
      have hb2 := hbW.trans (hb3.mono hbW.size)
      clear cw r0 r1 r2 r3 Q0 Q1 d0 d1 hW1 hb3
      go_wp2
      go_roundw
      case rel => exact ⟨k + 1, by omega, by go_num, by rw [HSU.out], hb2⟩
      case measure => simp [intOf]; omega
    · rw [if_neg f1] at HSU
      have cw := fun d os => Calls.regrown_of (w := W1) (d := d) (os := os) (implWorse m p _ hmb hpb false (decide_eq_false f1))
      clear f1
      go_wp2
      refine wp_region_quiet_below (by kernel_rfl) (by kernel_rfl) ?_
      repeat (go_big_quiet_step (with_reducible exact cw _ _))
      refine wpQuiet_nil ?_
      intro _ hw'
      obtain ⟨⟨dq, osq⟩, hw''⟩ := hw'
      subst hw''
      have hb3 := below_regrown (W1) dq osq
      generalize grow (redrawn (W1) dq) osq = w3 at *
      have hb2 := hbW.trans (hb3.mono hbW.size)
      clear cw r0 r1 r2 r3 Q0 Q1 d0 d1 hW1 hb3
      go_wp2
      go_roundw
      case rel => exact ⟨k + 1, by omega, by go_num, by rw [HSU.out], hb2⟩
      case measure => simp [intOf]; omega
end Go.Proofs.Ytklilfbokpljkac
