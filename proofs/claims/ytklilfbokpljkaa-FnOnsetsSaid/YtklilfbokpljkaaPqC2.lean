/- Picks: Revisions and MovedMost by the specification. -/
import Derived.Test.YtklilfbokpljkaaPqB2
import Derived.IntWalk
namespace Go.Proofs.Ytklilfbokpljkaa
open Go.ChangeShapes Go.WideShapes Go.ChangeAt Go.RowKit Go.ChangeMaps Go.Sort Go.Shelf
set_option linter.unusedSimpArgs false
set_option linter.unusedVariables false

set_option maxRecDepth 100000 in
set_option maxHeartbeats 4000000 in
theorem specRevs (xs : List GPick) (v : Value) (w : World) (B : Nat) (h : PickL w B v xs) (hB : B ≤ w.heap.size) (hn : szsPick xs ≤ 1048576) (hw : ∀ s ∈ xs, wfPick s) :
    Calls Try.prog 94 #[v] w fun e w' => e = .returned (.tuple #[.int .i64 (humR xs), .int .i64 (allR xs), .bool (goodP xs)]) ∧ Below w.heap.size w w' := by
  have hl := Nat.le_trans (szsPick_len xs) hn
  cases hg : goodP xs with
  | false =>
    have C := Lib.hid (specGoodP xs v false w B h hB hl hg)
    have e1 : humR xs = 0 := by unfold humR; rw [hg]; rfl
    have e2 : allR xs = 0 := by unfold allR; rw [hg]; rfl
    rw [e1, e2]
    clear hg e1 e2
    obtain ⟨ao, cap, rfl⟩ := h.form
    go_enter Try.func94, Try.ntmps94
    go_wp2_with fail
    refine C.out.mono ?_
    rintro e w1 ⟨rfl, hb⟩
    go_wp2
    go_ret3
    exact ⟨rfl, hb⟩
  | true =>
  have C := Lib.hid (specGoodP xs v true w B h hB hl hg)
  have hok := goodP_yes hg
  have HOK := Lib.hid hok
  have hl12 := hok.1
  generalize hhum : humR xs = hum
  generalize hall : allR xs = all
  have HH : Hid (hum = (humP (revsP xs xs.length) : Int)) := Lib.hid (by rw [← hhum]; unfold humR; rw [if_pos hg])
  have HA : Hid (all = ((revsP xs xs.length).length : Int)) := Lib.hid (by rw [← hall]; unfold allR; rw [if_pos hg])
  have HL := Lib.hid h
  obtain ⟨ao, cap, rfl, hcap, hmax, hnn, hc⟩ := h
  unfold maxLen at hmax
  have HC := Lib.hid hc
  clear hg hok hhum hall hc hnn
  go_enter Try.func94, Try.ntmps94
  go_wp2_with fail
  refine C.out.mono ?_
  rintro e w1 ⟨rfl, hb⟩
  have z1 := hb.size
  go_wp2
  go_loopw [5, 6, 7] (fun hs al i wr => ∃ (k hm nr : Nat), k ≤ xs.length ∧ i = .int .i64 k ∧ hs = .int .i64 hm ∧ al = .int .i64 nr ∧ nr ≤ k ∧ hm ≤ nr ∧ Hid (humP (revsP xs k) = hm) ∧ Hid ((revsP xs k).length = nr) ∧ Below w.heap.size w wr)
    (fun _ _ i _ => xs.length - (intOf i).toNat)
  case atStart => exact ⟨0, 0, 0, Nat.zero_le _, rfl, rfl, rfl, Nat.le_refl _, Nat.le_refl _, Lib.hid (by rw [revs_zero]; rfl), Lib.hid (by rw [revs_zero]; rfl), hb⟩
  case round =>
    obtain ⟨k, hm, nr, hk, rfl, rfl, rfl, hnr, hhm, HHM, HNR, hbl⟩ := hrel
    have hsz := hbl.size
    by_cases hlt : k < xs.length
    case neg =>
      obtain rfl : k = xs.length := by omega
      have E1 : Hid ((hm : Int) = hum) := Lib.hid (by rw [HH.out, HHM.out])
      have E2 : Hid ((nr : Int) = all) := Lib.hid (by rw [HA.out, HNR.out])
      go_wp2
      go_ret3
      exact ⟨ret_iib E1.out E2.out, hbl⟩
    have hk0 : (0 : Int) ≤ (k : Int) := by omega
    have hk1 : (k : Int) < (xs.length : Int) := by omega
    obtain ⟨p, hp⟩ := get_of_lt hlt
    obtain ⟨b, off, rfl, hb', hcell⟩ := HC.out k p hp
    have c0 : wr.cell? ⟨b, off + k * 7, none⟩ = some (.int .i64 p.pId) := cellOf hbl (by omega) (hcell 0 _ rfl)
    have c1 : wr.cell? ⟨b, off + k * 7 + 1, none⟩ = some (.int .i64 p.pStation) := cellOf hbl (by omega) (hcell 1 _ rfl)
    have c2 : wr.cell? ⟨b, off + k * 7 + 2, none⟩ = some (.int .i64 p.pWave) := cellOf hbl (by omega) (hcell 2 _ rfl)
    have c3 : wr.cell? ⟨b, off + k * 7 + 3, none⟩ = some (.int .i64 p.pTick) := cellOf hbl (by omega) (hcell 3 _ rfl)
    have c4 : wr.cell? ⟨b, off + k * 7 + 4, none⟩ = some (.int .i64 p.pError) := cellOf hbl (by omega) (hcell 4 _ rfl)
    have c5 : wr.cell? ⟨b, off + k * 7 + 5, none⟩ = some (.int .i64 p.pBy) := cellOf hbl (by omega) (hcell 5 _ rfl)
    have c6 : wr.cell? ⟨b, off + k * 7 + 6, none⟩ = some (.int .i64 p.pAfter) := cellOf hbl (by omega) (hcell 6 _ rfl)
    have HP := Lib.hid hp
    have hpo := okP_mem HOK.out (List.mem_of_getElem? hp)
    unfold oneP at hpo
    have by0 : 0 ≤ p.pBy := by omega
    by_cases h0 : p.pAfter = 0
    case pos =>
      have HR := Lib.hid (revs_none HP.out (look_zero HOK.out (by omega : p.pAfter ≤ 0)))
      have t1 : (p.pAfter == 0) = true := by simp [h0]
      clear h0 hp hcell hpo
      go_wp2
      go_roundw
      case rel => exact ⟨k + 1, hm, nr, by omega, by go_num, rfl, rfl, by omega, hhm, Lib.hid (by rw [HR.out]; exact HHM.out), Lib.hid (by rw [HR.out]; exact HNR.out), hbl⟩
      case measure => simp [intOf]; omega
    obtain ⟨q, hq, -⟩ := after_some HOK.out (List.mem_of_getElem? hp) h0
    obtain ⟨j, hj, hjid, hjf⟩ := look_some hq
    have HIX := Lib.hid (idx_of_first hj hjid hjf)
    have hjl : j < xs.length := (List.getElem?_eq_some_iff.1 hj).1
    have hqo := okP_mem HOK.out (look_mem hq).1
    unfold oneP at hqo
    obtain ⟨b2, off2, e9, -, hcell2⟩ := HC.out j q hj
    simp only [Option.some.injEq, Addr.mk.injEq, and_true] at e9
    obtain ⟨rfl, rfl⟩ := e9
    have d0 : wr.cell? ⟨b, off + j * 7, none⟩ = some (.int .i64 q.pId) := cellOf hbl (by omega) (hcell2 0 _ rfl)
    have d1 : wr.cell? ⟨b, off + j * 7 + 1, none⟩ = some (.int .i64 q.pStation) := cellOf hbl (by omega) (hcell2 1 _ rfl)
    have d2 : wr.cell? ⟨b, off + j * 7 + 2, none⟩ = some (.int .i64 q.pWave) := cellOf hbl (by omega) (hcell2 2 _ rfl)
    have d3 : wr.cell? ⟨b, off + j * 7 + 3, none⟩ = some (.int .i64 q.pTick) := cellOf hbl (by omega) (hcell2 3 _ rfl)
    have d4 : wr.cell? ⟨b, off + j * 7 + 4, none⟩ = some (.int .i64 q.pError) := cellOf hbl (by omega) (hcell2 4 _ rfl)
    have d5 : wr.cell? ⟨b, off + j * 7 + 5, none⟩ = some (.int .i64 q.pBy) := cellOf hbl (by omega) (hcell2 5 _ rfl)
    have d6 : wr.cell? ⟨b, off + j * 7 + 6, none⟩ = some (.int .i64 q.pAfter) := cellOf hbl (by omega) (hcell2 6 _ rfl)
    have HR := Lib.hid (revs_some HP.out hq)
    have HS := Lib.hid (hum_snoc (revsP xs k) (p, q))
    have HL1 := Lib.hid (HL.out.below (hbl.mono hB))
    have t1 : (p.pAfter == 0) = false := by simp [h0]
    have j0 : (0 : Int) ≤ (j : Int) := by omega
    have j1 : (j : Int) < (xs.length : Int) := by omega
    have cf := fun d os => Calls.regrown_of (w := wr) (d := d) (os := os) (specFindB xs _ p.pAfter j _ B (HL1.out.below ((below_regrown wr d os).mono (by omega))) HIX.out hl)
    have rc0 := cell_regrown c0
    have rd0 := cell_regrown d0
    have rc1 := cell_regrown c1
    have rd1 := cell_regrown d1
    have rc2 := cell_regrown c2
    have rd2 := cell_regrown d2
    have rc3 := cell_regrown c3
    have rd3 := cell_regrown d3
    have rc4 := cell_regrown c4
    have rd4 := cell_regrown d4
    have rc5 := cell_regrown c5
    have rd5 := cell_regrown d5
    have rc6 := cell_regrown c6
    have rd6 := cell_regrown d6
    have hnr1 : (nr : Int) ≤ 12 := by omega
    have hhm1 : (hm : Int) ≤ 12 := by omega
    have HNR2 : Hid ((revsP xs (k + 1)).length = nr + 1) := Lib.hid (by rw [HR.out, List.length_append, HNR.out]; rfl)
    clear h0 hp hcell hcell2 hpo hqo hq hj hjid hjf
    by_cases hm1 : 0 < p.pBy
    case neg =>
      have g1 : decide (0 < p.pBy) = false := decide_eq_false hm1
      have HM2 : Hid (humP (revsP xs (k + 1)) = hm) := Lib.hid (by rw [HR.out, HS.out, HHM.out]; unfold manP; rw [decide_eq_true (show p.pBy = 0 by omega)]; simp)
      go_wp2
      go_roundw
      case rel => exact ⟨k + 1, hm, nr + 1, by omega, by go_num, rfl, by go_num, by omega, by omega, HM2, HNR2, hbl⟩
      case measure => simp [intOf]; omega
    have g1 : decide (0 < p.pBy) = true := decide_eq_true hm1
    have CF := Lib.hid (specFind xs _ p.pAfter j wr B HL1.out HIX.out hl)
    by_cases hm2 : q.pBy = 0
    case neg =>
      have t2 : (q.pBy == 0) = false := by simp [hm2]
      have HM2 : Hid (humP (revsP xs (k + 1)) = hm) := Lib.hid (by rw [HR.out, HS.out, HHM.out]; unfold manP; rw [decide_eq_false hm2]; simp)
      clear hm2
      go_wp2_with fail
      refine CF.out.mono ?_
      rintro e w2 ⟨rfl, rfl⟩
      go_wp2
      go_roundw
      case rel => exact ⟨k + 1, hm, nr + 1, by omega, by go_num, rfl, by go_num, by omega, by omega, HM2, HNR2, hbl⟩
      case measure => simp [intOf]; omega
    have t2 : (q.pBy == 0) = true := by simp [hm2]
    have HM2 : Hid (humP (revsP xs (k + 1)) = hm + 1) := Lib.hid (by rw [HR.out, HS.out, HHM.out]; unfold manP; rw [decide_eq_true hm2, decide_eq_false (show ¬ p.pBy = 0 by omega)]; simp)
    clear hm2
    go_wp2_with fail
    refine CF.out.mono ?_
    rintro e w2 ⟨rfl, rfl⟩
    go_wp2
    go_roundw
    case rel => exact ⟨k + 1, hm + 1, nr + 1, by omega, by go_num, by go_num, by go_num, by omega, by omega, HM2, HNR2, hbl⟩
    case measure => simp [intOf]; omega

set_option maxRecDepth 100000 in
set_option maxHeartbeats 4000000 in
theorem specMov (xs : List GPick) (v : Value) (w : World) (B : Nat) (h : PickL w B v xs) (hB : B ≤ w.heap.size) (hn : szsPick xs ≤ 1048576) (hw : ∀ s ∈ xs, wfPick s) :
    Calls Try.prog 78 #[v] w fun e w' => e = .returned (.tuple #[.int .i64 (bestM xs), .int .i64 (numM xs), .bool (okM xs)]) ∧ Below w.heap.size w w' := by
  have hl := Nat.le_trans (szsPick_len xs) hn
  cases hg : goodP xs with
  | false =>
    have C := Lib.hid (specGoodP xs v false w B h hB hl hg)
    obtain ⟨e3, e1, e2⟩ := m_bad hg
    rw [e1, e2, e3]
    clear hg e1 e2 e3
    obtain ⟨ao, cap, rfl⟩ := h.form
    go_enter Try.func78, Try.ntmps78
    go_wp2_with fail
    refine C.out.mono ?_
    rintro e w1 ⟨rfl, hb⟩
    go_wp2
    go_ret3
    exact ⟨rfl, hb⟩
  | true =>
  have C := Lib.hid (specGoodP xs v true w B h hB hl hg)
  have hok := goodP_yes hg
  have HOK := Lib.hid hok
  have hl12 := hok.1
  have hform := mv_form xs hok xs.length
  generalize hbest : bestM xs = best
  generalize hnum : numM xs = num
  generalize hokm : okM xs = okm
  have HM : Hid (best = bestM xs ∧ num = numM xs ∧ okm = okM xs) := Lib.hid ⟨hbest.symm, hnum.symm, hokm.symm⟩
  have HG := Lib.hid hg
  have HF := Lib.hid hform
  have HL := Lib.hid h
  obtain ⟨ao, cap, rfl, hcap, hmax, hnn, hc⟩ := h
  unfold maxLen at hmax
  have HC := Lib.hid hc
  clear hg hok hbest hnum hokm hform hc hnn
  go_enter Try.func78, Try.ntmps78
  go_wp2_with fail
  refine C.out.mono ?_
  rintro e w1 ⟨rfl, hb⟩
  have z1 := hb.size
  go_wp2
  go_loopw [5, 6, 7] (fun be mo i wr => ∃ (k : Nat) (mv : Int × Int), k ≤ xs.length ∧ i = .int .i64 k ∧ be = .int .i64 mv.1 ∧ mo = .int .i64 mv.2 ∧ Hid (mvP (revsP xs k) = mv) ∧ Below w.heap.size w wr)
    (fun _ _ i _ => xs.length - (intOf i).toNat)
  case atStart => exact ⟨0, (0, -1), Nat.zero_le _, rfl, rfl, rfl, Lib.hid (by rw [revs_zero]; rfl), hb⟩
  case round =>
    obtain ⟨k, mv, hk, rfl, rfl, rfl, HMV, hbl⟩ := hrel
    have hsz := hbl.size
    by_cases hlt : k < xs.length
    case neg =>
      obtain rfl : k = xs.length := by omega
      obtain ⟨m1, m2, m3⟩ := HM.out
      rcases HF.out with ⟨hr, hmv⟩ | ⟨hr, hb1, hb2, hb3, hb4⟩
      · obtain ⟨e1, e2, e3⟩ := m_none hr
        have E1 : Hid (okm = false) := Lib.hid (m3.trans e1)
        have E2 : Hid (best = 0) := Lib.hid (m1.trans e2)
        have E3 : Hid (num = 0) := Lib.hid (m2.trans e3)
        rw [HMV.out] at hmv
        subst hmv
        clear m1 m2 m3 e1 e2 e3 hr
        go_wp2
        go_ret3
        exact ⟨by rw [E1.out, E2.out, E3.out]; rfl, hbl⟩
      · obtain ⟨e1, e2, e3⟩ := m_yes HG.out hr
        have E1 : Hid (okm = true) := Lib.hid (m3.trans e1)
        rw [HMV.out] at hb1 hb2 hb3 hb4 e2 e3
        have E2 : Hid (best = mv.1) := Lib.hid (m1.trans e2)
        have E3 : Hid (num = mv.2) := Lib.hid (m2.trans e3)
        have g1 : ¬ mv.2 < 0 := by omega
        have g2 : decide (mv.2 < 0) = false := decide_eq_false g1
        clear m1 m2 m3 e1 e2 e3 hr
        go_wp2
        go_ret3
        exact ⟨by rw [E1.out, E2.out, E3.out]; rfl, hbl⟩
    have hk0 : (0 : Int) ≤ (k : Int) := by omega
    have hk1 : (k : Int) < (xs.length : Int) := by omega
    obtain ⟨p, hp⟩ := get_of_lt hlt
    obtain ⟨b, off, rfl, hb', hcell⟩ := HC.out k p hp
    have c0 : wr.cell? ⟨b, off + k * 7, none⟩ = some (.int .i64 p.pId) := cellOf hbl (by omega) (hcell 0 _ rfl)
    have c1 : wr.cell? ⟨b, off + k * 7 + 1, none⟩ = some (.int .i64 p.pStation) := cellOf hbl (by omega) (hcell 1 _ rfl)
    have c2 : wr.cell? ⟨b, off + k * 7 + 2, none⟩ = some (.int .i64 p.pWave) := cellOf hbl (by omega) (hcell 2 _ rfl)
    have c3 : wr.cell? ⟨b, off + k * 7 + 3, none⟩ = some (.int .i64 p.pTick) := cellOf hbl (by omega) (hcell 3 _ rfl)
    have c4 : wr.cell? ⟨b, off + k * 7 + 4, none⟩ = some (.int .i64 p.pError) := cellOf hbl (by omega) (hcell 4 _ rfl)
    have c5 : wr.cell? ⟨b, off + k * 7 + 5, none⟩ = some (.int .i64 p.pBy) := cellOf hbl (by omega) (hcell 5 _ rfl)
    have c6 : wr.cell? ⟨b, off + k * 7 + 6, none⟩ = some (.int .i64 p.pAfter) := cellOf hbl (by omega) (hcell 6 _ rfl)
    have HP := Lib.hid hp
    have hpo := okP_mem HOK.out (List.mem_of_getElem? hp)
    unfold oneP at hpo
    by_cases h0 : p.pAfter = 0
    case pos =>
      have HR := Lib.hid (revs_none HP.out (look_zero HOK.out (by omega : p.pAfter ≤ 0)))
      have t1 : (p.pAfter == 0) = true := by simp [h0]
      clear h0 hp hcell hpo
      go_wp2
      go_roundw
      case rel => exact ⟨k + 1, mv, by omega, by go_num, rfl, rfl, Lib.hid (by rw [HR.out]; exact HMV.out), hbl⟩
      case measure => simp [intOf]; omega
    obtain ⟨q, hq, -⟩ := after_some HOK.out (List.mem_of_getElem? hp) h0
    obtain ⟨j, hj, hjid, hjf⟩ := look_some hq
    have HIX := Lib.hid (idx_of_first hj hjid hjf)
    have hjl : j < xs.length := (List.getElem?_eq_some_iff.1 hj).1
    have hqo := okP_mem HOK.out (look_mem hq).1
    unfold oneP at hqo
    obtain ⟨b2, off2, e9, -, hcell2⟩ := HC.out j q hj
    simp only [Option.some.injEq, Addr.mk.injEq, and_true] at e9
    obtain ⟨rfl, rfl⟩ := e9
    have d0 : wr.cell? ⟨b, off + j * 7, none⟩ = some (.int .i64 q.pId) := cellOf hbl (by omega) (hcell2 0 _ rfl)
    have d1 : wr.cell? ⟨b, off + j * 7 + 1, none⟩ = some (.int .i64 q.pStation) := cellOf hbl (by omega) (hcell2 1 _ rfl)
    have d2 : wr.cell? ⟨b, off + j * 7 + 2, none⟩ = some (.int .i64 q.pWave) := cellOf hbl (by omega) (hcell2 2 _ rfl)
    have d3 : wr.cell? ⟨b, off + j * 7 + 3, none⟩ = some (.int .i64 q.pTick) := cellOf hbl (by omega) (hcell2 3 _ rfl)
    have d4 : wr.cell? ⟨b, off + j * 7 + 4, none⟩ = some (.int .i64 q.pError) := cellOf hbl (by omega) (hcell2 4 _ rfl)
    have d5 : wr.cell? ⟨b, off + j * 7 + 5, none⟩ = some (.int .i64 q.pBy) := cellOf hbl (by omega) (hcell2 5 _ rfl)
    have d6 : wr.cell? ⟨b, off + j * 7 + 6, none⟩ = some (.int .i64 q.pAfter) := cellOf hbl (by omega) (hcell2 6 _ rfl)
    have HR := Lib.hid (revs_some HP.out hq)
    have HS := Lib.hid (mv_snoc (revsP xs k) (p, q))
    have HL1 := Lib.hid (HL.out.below (hbl.mono hB))
    have t1 : (p.pAfter == 0) = false := by simp [h0]
    have j0 : (0 : Int) ≤ (j : Int) := by omega
    have j1 : (j : Int) < (xs.length : Int) := by omega
    have w0 : IntKind.i64.wrap (p.pTick - q.pTick) = p.pTick - q.pTick := IntWalk.i64_in _ (by omega)
    have w1' : IntKind.i64.wrap (-(p.pTick - q.pTick)) = -(p.pTick - q.pTick) := IntWalk.i64_in _ (by omega)
    have hmax : max (p.pTick - q.pTick) (-(p.pTick - q.pTick)) = movP (p, q) := by
      show _ = ab (p.pTick - q.pTick)
      unfold ab; split <;> omega
    have CX := Lib.hid (fun W => mostP (p.pTick - q.pTick) (-(p.pTick - q.pTick)) _ W hmax)
    have CF := Lib.hid (specFind xs _ p.pAfter j wr B HL1.out HIX.out hl)
    have cf := fun d os => Calls.regrown_of (w := wr) (d := d) (os := os) (specFindB xs _ p.pAfter j _ B (HL1.out.below ((below_regrown wr d os).mono (by omega))) HIX.out hl)
    have rc3 := cell_regrown c3
    have rc6 := cell_regrown c6
    have rd3 := cell_regrown d3
    generalize hmo : movP (p, q) = mo at *
    clear h0 hp hcell hcell2 hpo hqo hq hj hjid hjf hmax
    by_cases hgt : mv.2 < mo
    case neg =>
      have HM2 : Hid (mvP (revsP xs (k + 1)) = mv) := Lib.hid (by rw [HR.out, HS.out, HMV.out]; unfold mvStep; rw [hmo, if_neg hgt])
      have hgd : decide (mv.2 < mo) = false := decide_eq_false hgt
      have hge : mo ≤ mv.2 := by omega
      go_wp2
      refine wp_region_quiet_below (by kernel_rfl) (by kernel_rfl) ?_
      repeat (go_big_quiet_step (first | with_reducible exact cf _ _))
      refine wpQuiet_nil ?_
      intro _ hw'
      obtain ⟨⟨dq, osq⟩, hw''⟩ := hw'
      subst hw''
      have hb4 := below_regrown (wr) dq osq
      generalize grow (redrawn (wr) dq) osq = w4 at *
      go_wp2_with fail
      refine (CX.out _).mono ?_
      rintro e w3 ⟨rfl, rfl⟩
      go_wp2
      go_roundw
      case rel => exact ⟨k + 1, mv, by omega, by go_num, rfl, rfl, HM2, hbl.trans (hb4.mono hsz)⟩
      case measure => simp [intOf]; omega
    have HM2 : Hid (mvP (revsP xs (k + 1)) = (p.pId, mo)) := Lib.hid (by rw [HR.out, HS.out, HMV.out]; unfold mvStep; rw [hmo, if_pos hgt])
    have hgd : decide (mv.2 < mo) = true := decide_eq_true hgt
    go_wp2
    refine wp_region_quiet_below (by kernel_rfl) (by kernel_rfl) ?_
    repeat (go_big_quiet_step (first | with_reducible exact cf _ _))
    refine wpQuiet_nil ?_
    intro _ hw'
    obtain ⟨⟨dq, osq⟩, hw''⟩ := hw'
    subst hw''
    have hb4 := below_regrown (wr) dq osq
    generalize grow (redrawn (wr) dq) osq = w4 at *
    have f0 := cellOf hb4 (cell_of_lt c0) c0
    go_wp2_with fail
    refine (CX.out _).mono ?_
    rintro e w3 ⟨rfl, rfl⟩
    go_wp2
    go_roundw
    case rel => exact ⟨k + 1, (p.pId, mo), by omega, by go_num, rfl, rfl, HM2, hbl.trans (hb4.mono hsz)⟩
    case measure => simp [intOf]; omega
end Go.Proofs.Ytklilfbokpljkaa
