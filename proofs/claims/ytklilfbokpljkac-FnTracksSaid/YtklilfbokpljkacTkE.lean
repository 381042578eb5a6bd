/- Drifts of a track: the specification. -/
import Derived.Test.YtklilfbokpljkacTkT
import Derived.Test.YtklilfbokpljkacTkD
import Derived.Test.YtklilfbokpljkacRed
import Derived.Test.YtklilfbokpljkacAcc
import Derived.Test.YtklilfbokpljkacTkS
import Derived.Lib.QuietBelow
namespace Go.Proofs.Ytklilfbokpljkac
open Go.ChangeShapes Go.WideShapes Go.ChangeAt Go.RowKit Go.ChangeMaps Go.Sort
set_option linter.unusedSimpArgs false
set_option linter.unusedVariables false

theorem oneDrift2 (xs : List GDrift) : ∀ u ∈ xs.flatMap encDrift, u.oneCell' = true := by
  intro u hu
  obtain ⟨s, -, hs⟩ := List.mem_flatMap.1 hu
  simp [encDrift] at hs
  rcases hs with rfl | rfl <;> rfl
theorem cell_two_new (w : World) (a b : Value) (t : TypeId) : ∀ j u, [a, b][j]? = some u → (w.alloc (.cells #[a, b] t)).cell? ((⟨w.heap.size, 0, none⟩ : Addr).add j) = some u := by
  intro j u h
  have e : ((⟨w.heap.size, 0, none⟩ : Addr).add j) = ⟨w.heap.size, j, none⟩ := by unfold Addr.add; split <;> simp
  rw [e, World.cell?_alloc_new]
  simpa using h
noncomputable def resDrf (xs : List GClockMark) : List GDrift := if goodTk xs then driftsL xs else []
theorem resDrf_len {xs : List GClockMark} (h : szsClockMark xs ≤ 1048576) : szsDrift (resDrf xs) ≤ 1048576 := by
  rw [szsDrift_split]
  have := szsClockMark_len xs
  unfold resDrf
  split
  · rw [driftsL_len]; omega
  · simp
set_option maxRecDepth 100000 in
set_option maxHeartbeats 2000000 in
theorem specDrf (xs : List GClockMark) (v : Value) (w : World) (B : Nat) (h : ClockMarkL w B v xs) (hB : B ≤ w.heap.size) (hn : szsClockMark xs ≤ 1048576) (hw : ∀ m ∈ xs, wfClockMark m) :
    Calls Try.prog 50 #[v] w fun e w' => ∃ v', e = .returned (.tuple #[v', .bool (goodTk xs)]) ∧ DriftO w' w.heap.size w'.heap.size v' (resDrf xs) ∧ Below w.heap.size w w' := by
  have hl : xs.length ≤ 1048576 := Nat.le_trans (szsClockMark_len xs) hn
  have N1 := (Below.refl w.heap.size w).alloc (Nat.le_refl _) (.cells #[] 75)
  have hrow0 := rowK_empty w (base := w.heap.size) 75 2 (Nat.le_refl _)
  have h1 := h.below (N1.mono hB)
  unfold resDrf
  cases hg : goodTk xs with
  | false =>
    have C := Lib.hid (specGoodTkV xs v _ B h1 (Nat.le_trans hB N1.size) hl false hg)
    clear hg
    obtain ⟨ao, cap, rfl⟩ := h.form
    clear h h1
    go_enter Try.func50, Try.ntmps50
    go_wp2_with fail
    refine C.out.mono ?_
    rintro e w1 ⟨rfl, hb⟩
    have C1 := N1.trans (hb.mono N1.size)
    have hr1 := row_below hrow0 hb
    go_wp2
    go_ret2
    exact ⟨_, rfl, OwnK.of_row encDrift_len (by omega) (xs := []) hr1, C1⟩
  | true =>
  have C := Lib.hid (specGoodTkV xs v _ B h1 (Nat.le_trans hB N1.size) hl true hg)
  have HK := Lib.hid (goodTk_yes hg)
  clear hg
  have hl2 := HK.out.1.1
  have hl10 : (xs.length : Int) ≤ 10 := by have := HK.out.1.2; omega
  obtain ⟨ao, cap, rfl, hcap, hmax, -, hc⟩ := h
  unfold maxLen at hmax
  have HC := Lib.hid hc
  clear hc h1
  obtain ⟨ti, hi, hz0, hz1, hz2⟩ := info_parts info_Drift
  go_enter Try.func50, Try.ntmps50
  go_wp2_with fail
  refine C.out.mono ?_
  rintro e w1 ⟨rfl, hb⟩
  have C1 := N1.trans (hb.mono N1.size)
  have hr1 := row_below hrow0 hb
  clear hb hrow0 N1
  go_wp2
  go_loopw [4, 5] (fun o i wr => ∃ (k : Nat) (v : Value), (1 ≤ k ∧ k ≤ xs.length) ∧ i = .int .i64 k ∧ o = v ∧ wr.ownsRow w.heap.size 75 2 v (k - 1) (((driftsL xs).take (k - 1)).flatMap encDrift) ∧ (∃ ao cap, v = .slice ao (k - 1) cap) ∧ Below w.heap.size w wr)
    (fun _ i _ => xs.length - (intOf i).toNat)
  case atStart => exact ⟨1, _, ⟨Nat.le_refl _, by omega⟩, rfl, rfl, hr1, ⟨some ⟨w.heap.size, 0, none⟩, 0, rfl⟩, C1⟩
  case round =>
    obtain ⟨k, _, ⟨hk1, hk2⟩, rfl, rfl, hrow, ⟨aoo, capo, rfl⟩, hbl⟩ := hrel
    have hsz := hbl.size
    by_cases hlt : k < xs.length
    case neg =>
      obtain rfl : k = xs.length := by omega
      have HE : Hid ((driftsL xs).take (xs.length - 1) = driftsL xs) := Lib.hid (List.take_of_length_le (by rw [driftsL_len]; omega))
      rw [HE.out] at hrow
      generalize hil : driftsL xs = il at *
      have HIL := Lib.hid hil
      clear hil
      go_wp2
      go_ret2
      refine ⟨.slice aoo (xs.length - 1) capo, rfl, ?_, hbl⟩
      show OwnK encDrift 2 _ _ _ _ (driftsL xs)
      rw [HIL.out]
      exact OwnK.of_row encDrift_len (by omega) hrow
    obtain ⟨m, hm⟩ := get_of_lt hlt
    obtain ⟨p, hp⟩ := get_of_lt (l := xs) (k := k - 1) (by omega)
    obtain ⟨b, off, rfl, hbb, hcell⟩ := HC.out k m hm
    obtain ⟨b', off', e9, -, hcell2⟩ := HC.out (k - 1) p hp
    simp only [Option.some.injEq, Addr.mk.injEq, and_true] at e9
    obtain ⟨rfl, rfl⟩ := e9
    obtain ⟨⟨u0, u1⟩, u2, u3⟩ := okTk_tick HK.out hm
    obtain ⟨⟨v0, v1⟩, v2, v3⟩ := okTk_tick HK.out hp
    have hbef : befTk p m := by
      have := List.pairwise_iff_getElem.1 HK.out.2.2 (k - 1) k (by omega) hlt (by omega)
      rw [List.getElem?_eq_getElem hlt] at hm
      rw [List.getElem?_eq_getElem (by omega)] at hp
      simp only [Option.some.injEq] at hm hp
      rwa [hm, hp] at this
    obtain ⟨q1, q2⟩ := hbef
    have c0 : wr.cell? ⟨b, off + k * 2, none⟩ = some (.int .i64 m.pShown) := cellOf hbl (by omega) (hcell 0 _ rfl)
    have c1 : wr.cell? ⟨b, off + k * 2 + 1, none⟩ = some (.int .i64 m.pTrue) := cellOf hbl (by omega) (hcell 1 _ rfl)
    have d0 : wr.cell? ⟨b, off + (k - 1) * 2, none⟩ = some (.int .i64 p.pShown) := cellOf hbl (by omega) (hcell2 0 _ rfl)
    have d1 : wr.cell? ⟨b, off + (k - 1) * 2 + 1, none⟩ = some (.int .i64 p.pTrue) := cellOf hbl (by omega) (hcell2 1 _ rfl)
    have HT : Hid ((driftsL xs).take k = (driftsL xs).take (k - 1) ++ [drT p m]) := Lib.hid (by
      have e : k - 1 + 1 = k := by omega
      have := driftsL_take (i := k - 1) hp (by rw [e]; exact hm)
      rwa [e] at this)
    clear hm hp hcell hcell2
    have mp0 : (0 : Int) ≤ (k : Int) := by omega
    have mp1 : (k : Int) < (xs.length : Int) := by omega
    have mp2 : (0 : Int) ≤ (k : Int) - 1 := by omega
    have mp3 : (k : Int) - 1 < (xs.length : Int) := by omega
    have mp4 : ((k : Int) - 1).toNat = k - 1 := by omega
    have mp5 : IntKind.i64.wrap ((k : Int) - 1) = (k : Int) - 1 := IntWalk.i64_in _ (by omega)
    have s1 : IntKind.i64.wrap (m.pTrue - p.pTrue) = m.pTrue - p.pTrue := IntWalk.i64_in _ (by omega)
    have s2 : IntKind.i64.wrap (m.pShown - p.pShown) = m.pShown - p.pShown := IntWalk.i64_in _ (by omega)
    have CR : Hid (∀ W, Calls Try.prog 82 #[.int .i64 (m.pTrue - p.pTrue), .int .i64 (m.pShown - p.pShown)] W fun e w' => e = .returned (.tuple #[.int .i64 (numR (m.pTrue - p.pTrue) (m.pShown - p.pShown)), .int .i64 (denR (m.pTrue - p.pTrue) (m.pShown - p.pShown))]) ∧ ∃ n, w' = W.drewN n) := Lib.hid (fun W => specRed (m.pTrue - p.pTrue) (m.pShown - p.pShown) W (by omega) (by omega) (by omega) (by omega))
    have HZ : Hid (drT p m = ⟨numR (m.pTrue - p.pTrue) (m.pShown - p.pShown), denR (m.pTrue - p.pTrue) (m.pShown - p.pShown)⟩) := Lib.hid rfl
    generalize numR (m.pTrue - p.pTrue) (m.pShown - p.pShown) = nu at *
    generalize denR (m.pTrue - p.pTrue) (m.pShown - p.pShown) = de at *
    go_wp2
    go_quiet ((go_at_call 82; exact Calls.quiet_of (CR.out _)))
    have hb2 := drewN_b hbl nq
    have hrow2 : (wr.drewN nq).ownsRow w.heap.size 75 2 (.slice aoo (k - 1) capo) (k - 1) (((driftsL xs).take (k - 1)).flatMap encDrift) := hrow
    have hsz2 : w.heap.size ≤ (wr.drewN nq).heap.size := hsz
    generalize wr.drewN nq = w3 at *
    clear s1 s2 c0 c1 d0 d1 hrow hbl CR
    have HLn : Hid (((driftsL xs).take (k - 1)).length = k - 1) := Lib.hid (by rw [List.length_take, driftsL_len]; omega)
    have H1 := Lib.hid (oneDrift2 ((driftsL xs).take (k - 1)))
    have HFl : Hid ((((driftsL xs).take (k - 1)).flatMap encDrift).length = (k - 1) * 2) := Lib.hid (by rw [flat_len encDrift_len, HLn.out])
    have HN : Hid (((driftsL xs).take (k - 1)).flatMap encDrift ++ [.int .i64 nu, .int .i64 de] = ((driftsL xs).take k).flatMap encDrift) := Lib.hid (by rw [HT.out, List.flatMap_append, HZ.out]; rfl)
    generalize ((driftsL xs).take (k - 1)).flatMap encDrift = il at *
    go_wp2_with (at_builtin; refine wpList_append_own _ rfl _ _ 57 rfl w.heap.size 75 ti (.agg #[.int .i64 0, .int .i64 0]) 2 16 Try.underlying57 hi hz0 hz1 hz2 rfl (by decide) _ (k - 1) il rfl (hrow2.alloc _) ⟨w3.heap.size, 0, none⟩ 1 1 [.int .i64 nu, .int .i64 de] rfl rfl (cell_two_new _ _ _ _) (by simp [Value.oneCell']) (by unfold maxLen; omega) (by omega) (by first | omega | (simp; done) | (simp; omega)) ?_; intro v' w5 hown hgrow _)
    have hk9 : k - 1 + 1 = k := by omega
    have hrow3 : w5.ownsRow w.heap.size 75 2 v' k (((driftsL xs).take k).flatMap encDrift) := by rw [hk9, HN.out] at hown; exact hown
    have hb5 : Below w.heap.size w w5 := (hb2.alloc hsz2 (.cells #[.int .i64 nu, .int .i64 de] 75)).grown hgrow (by simp; omega) (fun g e => (hrow2.lt g e).1)
    obtain ⟨a3, c3, rfl⟩ := row_form hrow3
    clear hown hgrow
    go_roundw
    case rel => exact ⟨k + 1, _, ⟨by omega, by omega⟩, by go_num, rfl, hrow3, ⟨a3, c3, rfl⟩, hb5⟩
    case measure => simp [intOf]; omega
theorem offAny (d : GDrift) (w : World) (h : (0 ≤ d.pNum ∧ d.pNum ≤ 1000000) ∧ (1 ≤ d.pDen ∧ d.pDen ≤ 1000000)) : Calls Try.prog 112 #[.agg #[.int .i64 d.pNum, .int .i64 d.pDen]] w fun e w' => e = .returned (.int .i64 (offD d)) ∧ Below w.heap.size w w' := by
  have HO : Hid (mxT (d.pNum - d.pDen) (d.pDen - d.pNum) = offD d) := Lib.hid (by unfold mxT offD; split <;> split <;> omega)
  obtain ⟨⟨n0, n1⟩, d0, d1⟩ := h
  have s1 : IntKind.i64.wrap (d.pNum - d.pDen) = d.pNum - d.pDen := IntWalk.i64_in _ (by omega)
  have s2 : IntKind.i64.wrap (d.pDen - d.pNum) = d.pDen - d.pNum := IntWalk.i64_in _ (by omega)
  have CM := Lib.hid (fun W => mostT (d.pNum - d.pDen) (d.pDen - d.pNum) W)
  rw [HO.out] at CM
  clear HO
  generalize offD d = o at *
  go_enter Try.func112, Try.ntmps112
  go_wp2_with fail
  refine (CM.out _).mono ?_
  rintro e w1 ⟨rfl, hw⟩
  obtain rfl := hw
  go_wp2
  go_ret
  exact ⟨rfl, (Below.refl _ _).alloc (Nat.le_refl _) _⟩
theorem bestD_one (ds : List GDrift) : bestD ds 1 = 0 := by simp [bestD]
theorem offD_bd {d : GDrift} (h : (0 ≤ d.pNum ∧ d.pNum ≤ 1000000) ∧ (1 ≤ d.pDen ∧ d.pDen ≤ 1000000)) : 0 ≤ offD d ∧ offD d ≤ 1000000 := by unfold offD; split <;> omega
theorem getD_of {ds : List GDrift} {i : Nat} {d : GDrift} (h : ds[i]? = some d) : ds.getD i zD = d := by simp [List.getD, h]
theorem mul_bd {a b : Int} (h0 : 0 ≤ a) (h1 : a ≤ 1000000) (k0 : 0 ≤ b) (k1 : b ≤ 1000000) : 0 ≤ a * b ∧ a * b ≤ 1000000000000 := by
  have e1 := Int.mul_le_mul_of_nonneg_right h1 k0
  have := Int.mul_nonneg h0 k0
  omega
noncomputable def numWD (xs : List GClockMark) : Int := if goodTk xs then (bestD (driftsL xs) (driftsL xs).length : Nat) else 0
theorem noWD {xs : List GClockMark} (h : goodTk xs = false) : Ending.returned (.tuple #[.int .i64 0, .bool false]) = .returned (.tuple #[.int .i64 (numWD xs), .bool (goodTk xs)]) := by unfold numWD; rw [h]; rfl
theorem yesWD {xs : List GClockMark} {a : Int} (h : goodTk xs = true) (ha : ((bestD (driftsL xs) (driftsL xs).length : Nat) : Int) = a) : Ending.returned (.tuple #[.int .i64 a, .bool true]) = .returned (.tuple #[.int .i64 (numWD xs), .bool (goodTk xs)]) := by unfold numWD; rw [h, ← ha]; rfl
set_option maxRecDepth 100000 in
set_option maxHeartbeats 2000000 in
theorem specWD (xs : List GClockMark) (v : Value) (w : World) (B : Nat) (h : ClockMarkL w B v xs) (hB : B ≤ w.heap.size) (hn : szsClockMark xs ≤ 1048576) (hw : ∀ m ∈ xs, wfClockMark m) :
    Calls Try.prog 64 #[v] w fun e w' => e = .returned (.tuple #[.int .i64 (numWD xs), .bool (goodTk xs)]) ∧ Below w.heap.size w w' := by
  have C := specDrf xs v w B h hB hn hw
  unfold resDrf at C
  cases hg : goodTk xs with
  | false =>
    rw [hg] at C
    have C := Lib.hid C
    have HF := Lib.hid (noWD hg)
    rw [hg] at HF
    clear hg
    obtain ⟨ao, cap, rfl⟩ := h.form
    clear h
    go_enter Try.func64, Try.ntmps64
    go_wp2_with fail
    refine C.out.mono ?_
    rintro e w1 ⟨v', rfl, ho, hb⟩
    obtain ⟨ao', cap', rfl⟩ := ho.form
    go_wp2
    go_ret2
    exact ⟨HF.out, hb⟩
  | true =>
  rw [hg] at C
  have e9 : (if true = true then driftsL xs else []) = driftsL xs := rfl
  rw [e9] at C
  clear e9
  have C := Lib.hid C
  have HF := Lib.hid (fun a => yesWD (a := a) hg)
  rw [hg] at HF
  have hk := goodTk_yes hg
  have hl : (driftsL xs).length = xs.length - 1 := driftsL_len xs
  have hl2 := hk.1.1
  have hl10 := hk.1.2
  have HBD := Lib.hid (driftsL_bd hk.2.2 hk.2.1)
  have hd1 : 1 ≤ (driftsL xs).length := by omega
  have hd2 : ((driftsL xs).length : Int) ≤ 10 := by omega
  clear hg hk hl hl2 hl10
  obtain ⟨ao, cap, rfl⟩ := h.form
  clear h
  generalize driftsL xs = ds at *
  go_enter Try.func64, Try.ntmps64
  go_wp2_with fail
  refine C.out.mono ?_
  rintro e w1 ⟨v', rfl, ho, hb1⟩
  obtain ⟨ao', cap', rfl, hcap, hmax, -, hc⟩ := ho.lst
  have HC := Lib.hid hc
  clear hc ho
  go_wp2
  go_loopw [6, 7] (fun o i wr => ∃ k : Nat, (1 ≤ k ∧ k ≤ ds.length) ∧ i = .int .i64 k ∧ o = .int .i64 (bestD ds k : Nat) ∧ Below w1.heap.size w1 wr)
    (fun _ i _ => ds.length - (intOf i).toNat)
  case atStart => exact ⟨1, ⟨Nat.le_refl _, hd1⟩, rfl, by rw [bestD_one]; rfl, Below.refl _ _⟩
  case round =>
    obtain ⟨k, ⟨hk1, hk2⟩, rfl, rfl, hbl⟩ := hrel
    by_cases hlt : k < ds.length
    case neg =>
      obtain rfl : k = ds.length := by omega
      have HG := Lib.hid (HF.out _ rfl)
      generalize bestD ds ds.length = be at *
      go_wp2
      go_ret2
      exact ⟨HG.out, hb1.trans (hbl.mono hb1.size)⟩
    have hbe := (bestD_le ds k).2 (by omega)
    have HSU : Hid (bestD ds (k + 1) = if offD (ds.getD (bestD ds k) zD) * (ds.getD k zD).pDen < offD (ds.getD k zD) * (ds.getD (bestD ds k) zD).pDen then k else bestD ds k) := Lib.hid (by rw [bestD])
    generalize bestD ds k = be at *
    obtain ⟨m, hm⟩ := get_of_lt hlt
    obtain ⟨p, hp⟩ := get_of_lt (l := ds) (k := be) (by omega)
    have hmb := HBD.out m (List.mem_of_getElem? hm)
    have hpb := HBD.out p (List.mem_of_getElem? hp)
    obtain ⟨b, off, rfl, hbb, hcell⟩ := HC.out k m hm
    obtain ⟨b', off', e9, -, hcell2⟩ := HC.out be p hp
    simp only [Option.some.injEq, Addr.mk.injEq, and_true] at e9
    obtain ⟨rfl, rfl⟩ := e9
    rw [getD_of hm, getD_of hp] at HSU
    have c0 : wr.cell? ⟨b, off + k * 2, none⟩ = some (.int .i64 m.pNum) := cellOf hbl (by omega) (hcell 0 _ rfl)
    have c1 : wr.cell? ⟨b, off + k * 2 + 1, none⟩ = some (.int .i64 m.pDen) := cellOf hbl (by omega) (hcell 1 _ rfl)
    have d0 : wr.cell? ⟨b, off + be * 2, none⟩ = some (.int .i64 p.pNum) := cellOf hbl (by omega) (hcell2 0 _ rfl)
    have d1 : wr.cell? ⟨b, off + be * 2 + 1, none⟩ = some (.int .i64 p.pDen) := cellOf hbl (by omega) (hcell2 1 _ rfl)
    clear hm hp hcell hcell2
    have cm := fun d os => Calls.regrown_of (w := wr) (d := d) (os := os) (offAny m _ hmb)
    have cp := fun d os => Calls.regrown_of (w := wr) (d := d) (os := os) (offAny p _ hpb)
    have r0 := cell_regrown c0
    have r1 := cell_regrown c1
    have r2 := cell_regrown d0
    have r3 := cell_regrown d1
    have om := offD_bd hmb
    have op := offD_bd hpb
    have mp0 : (0 : Int) ≤ (k : Int) := by omega
    have mp1 : (k : Int) < (ds.length : Int) := by omega
    have mp2 : (0 : Int) ≤ (be : Int) := by omega
    have mp3 : (be : Int) < (ds.length : Int) := by omega
    generalize offD m = fm at *
    generalize offD p = fp at *
    obtain ⟨⟨-, -⟩, md0, md1⟩ := hmb
    obtain ⟨⟨-, -⟩, pd0, pd1⟩ := hpb
    have x1 := mul_bd om.1 om.2 (show 0 ≤ p.pDen by omega) pd1
    have x2 := mul_bd op.1 op.2 (show 0 ≤ m.pDen by omega) md1
    have s1 : IntKind.i64.wrap (fm * p.pDen) = fm * p.pDen := IntWalk.i64_in _ (by omega)
    have s2 : IntKind.i64.wrap (fp * m.pDen) = fp * m.pDen := IntWalk.i64_in _ (by omega)
    by_cases f1 : fp * m.pDen < fm * p.pDen
    · rw [if_pos f1] at HSU
      go_wp2
      refine wp_region_quiet_below (by kernel_rfl) (by kernel_rfl) ?_
      iterate 5 (go_big_quiet_step (exact cm _ _))
      repeat (go_big_quiet_step (exact cp _ _))
      refine wpQuiet_nil ?_
      intro _ hw'
      obtain ⟨⟨dq, osq⟩, hw''⟩ := hw'
      subst hw''
      have hb3 := below_regrown (wr) dq osq
      generalize grow (redrawn (wr) dq) osq = w3 at *
      have hb2 := hbl.trans (hb3.mono hbl.size)
      clear cm cp r0 r1 r2 r3 c0 c1 d0 d1
      go_wp2
      go_roundw
      case rel => exact ⟨k + 1, ⟨by omega, by omega⟩, by go_num, by rw [HSU.out], hb2⟩
      case measure => simp [intOf]; omega
    · rw [if_neg f1] at HSU
      go_wp2
      refine wp_region_quiet_below (by kernel_rfl) (by kernel_rfl) ?_
      iterate 5 (go_big_quiet_step (exact cm _ _))
      repeat (go_big_quiet_step (exact cp _ _))
      refine wpQuiet_nil ?_
      intro _ hw'
      obtain ⟨⟨dq, osq⟩, hw''⟩ := hw'
      subst hw''
      have hb3 := below_regrown (wr) dq osq
      generalize grow (redrawn (wr) dq) osq = w3 at *
      have hb2 := hbl.trans (hb3.mono hbl.size)
      clear cm cp r0 r1 r2 r3 c0 c1 d0 d1
      go_wp2
      go_roundw
      case rel => exact ⟨k + 1, ⟨by omega, by omega⟩, by go_num, by rw [HSU.out], hb2⟩
      case measure => simp [intOf]; omega
end Go.Proofs.Ytklilfbokpljkac
