/- The distances of all pairs: the specification. -/
import Derived.Test.YtjiaejempfhheaaPairR
import Derived.Deep.CutBlock
import Derived.Deep.CutRange
namespace Go.Proofs.Ytjiaejempfhheaa
open Go.ChangeShapes Go.WideShapes Go.ChangeAt Go.RowKit Go.ChangeMaps Go.Sort
set_option linter.unusedSimpArgs false
set_option linter.unusedVariables false

theorem rows_nil {w : World} {base k bT : Nat} {e : TypeId} {v : Value} {bs : List Nat} (hd : bs.drop k = []) (h : w.ownsRow base e 1 v (k + 1 + 0) ((bs.take k).map slV ++ [.slice (some ⟨bT, 0, none⟩) 3 3] ++ [])) : w.ownsRow base e 1 v (k + 1) ((bs.take k).map slV ++ [.slice (some ⟨bT, 0, none⟩) 3 3] ++ (bs.drop k).map slV) := by
  rw [hd, List.map_nil]; exact h
theorem step_at {P : Program} (w : World) {ops : Array Oper} {o : Oper} {a : Act} {K : Act → World → Prop} {Q : Exit → Act → World → Prop} {E : Prop}
    (h : if Region.wanted o (yielded ops a.tmps) = true then Oper.wp P o a w K Q else E) : if Region.wanted o (yielded ops a.tmps) = true then Oper.wp P o a w K Q else E := h
set_option maxRecDepth 100000 in
set_option maxHeartbeats 16000000 in
theorem specPair (xs : List GStation) (v : Value) (w : World) (B : Nat) (h : StationL w B v xs) (hB : B ≤ w.heap.size) (hn : szsStation xs ≤ 1048576) (hw : ∀ s ∈ xs, wfStation s) :
    Calls Try.prog 39 #[v] w fun e w' => ∃ v', e = .returned (.tuple #[v', .bool (goodL xs)]) ∧ SSO w' w.heap.size w'.heap.size v' (resPair xs) ∧ Below w.heap.size w w' := by
  have N1 := (Below.refl w.heap.size w).alloc (Nat.le_refl _) (.cells #[] 27)
  have hrow0 := row_empty w (base := w.heap.size) 27 1 (Nat.le_refl _)
  have h1 := h.below (N1.mono hB)
  generalize hres : resPair xs = res
  have HR := Lib.hid hres
  clear hres
  by_cases hg : goodL xs = true
  case neg =>
    have C := Lib.hid (specGoodV xs v _ B h1 (Nat.le_trans hB N1.size) hn hw false (bool_f hg))
    have E2 : res = [] := by rw [← HR.out]; unfold resPair; rw [if_neg hg]
    subst E2
    rw [bool_f hg]
    clear hg
    obtain ⟨ao, cap, rfl, -⟩ := h
    go_enter Try.func39, Try.ntmps39
    go_wp2_with fail
    refine C.out.mono ?_
    rintro e w1 ⟨rfl, hb⟩
    have C1 := N1.trans (hb.mono N1.size)
    have hr1 := row_below hrow0 hb
    have z1 : w.heap.size + 1 ≤ w1.heap.size := by have := hb.size; simpa using this
    go_wp2
    go_ret2
    exact ⟨_, rfl, ⟨[], [], w.heap.size, rfl, rfl, List.nodup_nil, by simp, by omega, ⟨some ⟨w.heap.size, 0, none⟩, 0, rfl, by simp, by simp [maxLen], by simp, by simp⟩, by simp, by simp⟩, C1⟩
  have C := Lib.hid (specGoodV xs v _ B h1 (Nat.le_trans hB N1.size) hn hw true hg)
  have hlen := goodL_len hg
  have E2 : Hid (res = (pairL xs).map rowP) := Lib.hid (by rw [← HR.out]; unfold resPair; rw [if_pos hg])
  have HGL := Lib.hid hg
  rw [hg]
  clear hg h1 HR
  obtain ⟨ao, cap, rfl, hcap, hmax, hnn, hc⟩ := h
  unfold maxLen at hmax
  have HC := Lib.hid hc
  clear hc hnn
  obtain ⟨ti, hi, hz0, hz1, hz2⟩ := info_parts infoInts
  go_enter Try.func39, Try.ntmps39
  go_wp2_with fail
  refine C.out.mono ?_
  rintro e w1 ⟨rfl, hb⟩
  have C1 := N1.trans (hb.mono N1.size)
  have hr1 := row_below hrow0 hb
  have z1 : w.heap.size + 1 ≤ w1.heap.size := by have := hb.size; simpa using this
  clear hb hrow0 N1 C
  have hr2 : w1.ownsRow w.heap.size 27 1 (.slice (some ⟨w.heap.size, 0, none⟩) 0 0) 0 (([] : List Nat).map slV) := hr1
  go_wp2
  go_loopw [4, 5] (fun o i wr => ∃ (i0 n g cap : Nat) (ol : List GPair) (bs : List Nat), i0 ≤ xs.length ∧ i = .int .i64 i0 ∧ o = .slice (some ⟨g, 0, none⟩) n cap ∧ Hid (soFar0 xs i0 ol) ∧ wr.ownsRow w.heap.size 27 1 (.slice (some ⟨g, 0, none⟩) n cap) n (bs.map slV) ∧ Hid (RowsP wr w.heap.size g ol bs) ∧ n ≤ cap ∧ cap ≤ maxLen ∧ Below w.heap.size w wr)
    (fun _ i _ => xs.length - (intOf i).toNat)
  case atStart => exact ⟨0, _, _, _, [], [], Nat.zero_le _, rfl, rfl, Lib.hid (soFar0_zero xs), hr2, Lib.hid ⟨rfl, List.nodup_nil, by simp, by simp, by simp⟩, Nat.le_refl _, Nat.zero_le _, C1⟩
  case round =>
    obtain ⟨i0, n, g, ocap, ol, bs, hi0, rfl, rfl, HSF, hrow, HRP, hoc, hom, hbl⟩ := hrel
    have hsz := hbl.size
    unfold maxLen at hom
    by_cases hlt : i0 < xs.length
    case neg =>
      obtain rfl : i0 = xs.length := by omega
      have hol : ol = pairL xs := pairL_uniq HSF.out.1 HSF.out.2
      have hbn : bs.length = n := by have := hrow.1; simpa using this
      have hgl := hrow.lt g rfl
      have hOw : Own id wr w.heap.size wr.heap.size (.slice (some ⟨g, 0, none⟩) n ocap) (bs.map slV) := Own.of_row (by simpa using hrow)
      have hO2 : SSO wr w.heap.size wr.heap.size (.slice (some ⟨g, 0, none⟩) n ocap) res := by
        refine ⟨bs.map slV, bs, g, ?_, ?_, HRP.out.nodup, HRP.out.ne, hgl, ?_, fun b hb => ⟨HRP.out.low b hb, ?_⟩, fun i u ys b hu hy hb => ?_⟩
        · rw [E2.out, ← hol, List.length_map, List.length_map]; exact HRP.out.len
        · rw [E2.out, ← hol, List.length_map]; exact HRP.out.len
        · obtain ⟨ao', cap', g1, g2, g3, gn, g4⟩ := hOw
          refine ⟨ao', cap', g1, g2, g3, gn, fun i x hx => ?_⟩
          obtain ⟨b, off, e1, e0, e2, e3, e4⟩ := g4 i x hx
          have : b = g := by subst e1; simp only [Value.slice.injEq, Option.some.injEq, Addr.mk.injEq] at g1; exact g1.1.1.symm
          exact ⟨b, off, e1, by omega, by omega, e3, e4⟩
        · obtain ⟨i, hi⟩ := List.mem_iff_getElem?.1 hb
          obtain ⟨p, hp⟩ := get_of_lt (l := ol) (k := i) (by rw [← HRP.out.len]; exact (List.getElem?_eq_some_iff.1 hi).1)
          exact (HRP.out.at_ i b p hi hp).1.1
        · rw [E2.out, ← hol, List.getElem?_map] at hy
          obtain ⟨p, hp, rfl⟩ := Option.map_eq_some_iff.1 hy
          rw [List.getElem?_map, hb] at hu
          cases hu
          have hbx := HRP.out.at_ i b p hb hp
          refine ⟨some ⟨b, 0, none⟩, 3, rfl, by simp [rowP], by simp [maxLen], by simp, fun q x hx => ⟨b, 0, rfl, Nat.le_refl _, Nat.lt_succ_self _, ?_, hbx.1.2 _⟩⟩
          rw [Nat.zero_add]
          refine hbx.2 q _ ?_
          have e : cellsP p = (rowP p).map (Value.int .i64) := rfl
          rw [e, List.getElem?_map, hx]; rfl
      go_wp2
      go_ret2
      exact ⟨_, rfl, hO2, hbl⟩
    obtain ⟨s, hs⟩ := get_of_lt hlt
    obtain ⟨b1, off1, rfl, hb1, hcell1⟩ := HC.out i0 s hs
    have gs := goodS_bounds (goodL_at HGL.out hs)
    have HS := Lib.hid hs
    have HC1 := Lib.hid hcell1
    have hi1 : (i0 : Int) < (xs.length : Int) := by omega
    have hi2 : (0 : Int) ≤ (i0 : Int) := by omega
    clear hs hcell1
    go_wp2
    go_loopw [4, 6] (fun o j wr => ∃ (q m n g cap : Nat) (ol : List GPair) (bs : List Nat), q = i0 + 1 + m ∧ q ≤ xs.length ∧ j = .int .i64 q ∧ o = .slice (some ⟨g, 0, none⟩) n cap ∧ Hid (soFarP xs s i0 m ol) ∧ wr.ownsRow w.heap.size 27 1 (.slice (some ⟨g, 0, none⟩) n cap) n (bs.map slV) ∧ Hid (RowsP wr w.heap.size g ol bs) ∧ n ≤ cap ∧ cap ≤ maxLen ∧ Below w.heap.size w wr)
      (fun _ j _ => xs.length - (intOf j).toNat)
    case atStart => exact ⟨i0 + 1, 0, n, g, ocap, ol, bs, rfl, by omega, congrArg (Value.int .i64) (by omega), rfl, Lib.hid (soFar0_start s HSF.out), hrow, HRP, hoc, hom, hbl⟩
    case round =>
      clear hrow HRP HSF hoc hom hbl hsz
      obtain ⟨q, m, n, g, ocap, ol, bs, hqm, hq, rfl, rfl, HSF, hrow, HRP, hoc, hom, hbl⟩ := hrel
      have hsz := hbl.size
      unfold maxLen at hom
      by_cases hlt2 : q < xs.length
      case neg =>
        obtain rfl : q = xs.length := by omega
        go_wp2
        go_roundw
        case rel => exact ⟨i0 + 1, n, g, ocap, ol, bs, by omega, by go_num, rfl, Lib.hid (soFar0_next HS.out (by omega) HSF.out), hrow, HRP, hoc, hom, hbl⟩
        case measure => simp [intOf]; omega
      obtain ⟨t, ht⟩ := get_of_lt hlt2
      obtain ⟨b2, off2, e2, -, hcell2⟩ := HC.out q t ht
      simp only [Option.some.injEq, Addr.mk.injEq, and_true] at e2
      obtain ⟨rfl, rfl⟩ := e2
      have gt := goodS_bounds (goodL_at HGL.out ht)
      have HT : Hid (xs[i0 + 1 + m]? = some t) := Lib.hid (by rw [← hqm]; exact ht)
      have c0 : wr.cell? ⟨b1, off1 + i0 * 8, none⟩ = some (.int .i64 s.pId) := cellOf hbl (by omega) (HC1.out 0 _ rfl)
      have c1 : wr.cell? ⟨b1, off1 + i0 * 8 + 1, none⟩ = some (.string s.pName) := cellOf hbl (by omega) (HC1.out 1 _ rfl)
      have c2 : wr.cell? ⟨b1, off1 + i0 * 8 + 2, none⟩ = some (.int .i64 s.pX) := cellOf hbl (by omega) (HC1.out 2 _ rfl)
      have c3 : wr.cell? ⟨b1, off1 + i0 * 8 + 3, none⟩ = some (.int .i64 s.pY) := cellOf hbl (by omega) (HC1.out 3 _ rfl)
      have c4 : wr.cell? ⟨b1, off1 + i0 * 8 + 4, none⟩ = some (.int .i64 s.pGain) := cellOf hbl (by omega) (HC1.out 4 _ rfl)
      have c5 : wr.cell? ⟨b1, off1 + i0 * 8 + 5, none⟩ = some (.int .i64 s.pLow) := cellOf hbl (by omega) (HC1.out 5 _ rfl)
      have c6 : wr.cell? ⟨b1, off1 + i0 * 8 + 6, none⟩ = some (.int .i64 s.pHigh) := cellOf hbl (by omega) (HC1.out 6 _ rfl)
      have c7 : wr.cell? ⟨b1, off1 + i0 * 8 + 7, none⟩ = some (.int .i64 s.pUntil) := cellOf hbl (by omega) (HC1.out 7 _ rfl)
      have d0 : wr.cell? ⟨b1, off1 + q * 8, none⟩ = some (.int .i64 t.pId) := cellOf hbl (by omega) (hcell2 0 _ rfl)
      have d1 : wr.cell? ⟨b1, off1 + q * 8 + 1, none⟩ = some (.string t.pName) := cellOf hbl (by omega) (hcell2 1 _ rfl)
      have d2 : wr.cell? ⟨b1, off1 + q * 8 + 2, none⟩ = some (.int .i64 t.pX) := cellOf hbl (by omega) (hcell2 2 _ rfl)
      have d3 : wr.cell? ⟨b1, off1 + q * 8 + 3, none⟩ = some (.int .i64 t.pY) := cellOf hbl (by omega) (hcell2 3 _ rfl)
      have d4 : wr.cell? ⟨b1, off1 + q * 8 + 4, none⟩ = some (.int .i64 t.pGain) := cellOf hbl (by omega) (hcell2 4 _ rfl)
      have d5 : wr.cell? ⟨b1, off1 + q * 8 + 5, none⟩ = some (.int .i64 t.pLow) := cellOf hbl (by omega) (hcell2 5 _ rfl)
      have d6 : wr.cell? ⟨b1, off1 + q * 8 + 6, none⟩ = some (.int .i64 t.pHigh) := cellOf hbl (by omega) (hcell2 6 _ rfl)
      have d7 : wr.cell? ⟨b1, off1 + q * 8 + 7, none⟩ = some (.int .i64 t.pUntil) := cellOf hbl (by omega) (hcell2 7 _ rfl)
      have hq1 : (q : Int) < (xs.length : Int) := by omega
      have hq0 : (0 : Int) ≤ (q : Int) := by omega
      have hbn : bs.length = n := by have := hrow.1; simpa using this
      have HLN : Hid (ol.length = n) := Lib.hid (HRP.out.len.symm.trans hbn)
      have hn110 : n ≤ 110 := by rw [← HLN.out]; exact soFarP_len HSF.out hlen (by omega)
      have HQM := Lib.hid hqm
      clear ht hcell2 hbn hqm
      have SS := Lib.hid (fun W => specSq s t.pX t.pY W (by omega) (by omega) (by omega) (by omega))
      have HDS : Hid (dP (s, t) = sqd s t.pX t.pY) := Lib.hid rfl
      generalize sqd s t.pX t.pY = ds at *
      have cs := fun d os => Calls.regrown_of (w := wr) (d := d) (os := os) (SS.out _)
      have rc0 := cell_regrown c0
      have rc1 := cell_regrown c1
      have rc2 := cell_regrown c2
      have rc3 := cell_regrown c3
      have rc4 := cell_regrown c4
      have rc5 := cell_regrown c5
      have rc6 := cell_regrown c6
      have rc7 := cell_regrown c7
      have rd0 := cell_regrown d0
      have rd1 := cell_regrown d1
      have rd2 := cell_regrown d2
      have rd3 := cell_regrown d3
      have rd4 := cell_regrown d4
      have rd5 := cell_regrown d5
      have rd6 := cell_regrown d6
      have rd7 := cell_regrown d7
      go_wp2
      refine wp_region_quiet_below (by kernel_rfl) (by kernel_rfl) ?_
      repeat (go_big_quiet_step (with_reducible exact cs _ _))
      refine wpQuiet_nil ?_
      intro _ hw'
      obtain ⟨⟨dq, osq⟩, hw''⟩ := hw'
      subst hw''
      have hb4 := below_regrown (wr) dq osq
      generalize grow (redrawn (wr) dq) osq = w4 at *
      clear cs SS rc0 rc1 rc2 rc3 rc4 rc5 rc6 rc7 rd0 rd1 rd2 rd3 rd4 rd5 rd6 rd7
      have hbl4 := hbl.trans (hb4.mono hsz)
      have hrow4 := row_below hrow hb4
      have HRP4 := Lib.hid (HRP.out.below hb4)
      have hsz4 := hb4.size
      have hsz4w : w.heap.size ≤ w4.heap.size := Nat.le_trans hsz hsz4
      have e0 := cellOf hb4 (cell_of_lt c0) c0
      have e1 := cellOf hb4 (cell_of_lt d0) d0
      clear hrow HRP hbl hb4 c0 c1 c2 c3 c4 c5 c6 c7 d0 d1 d2 d3 d4 d5 d6 d7
      go_upto_block 4 with fail
      go_cut [7] from 45 to 59 (fun s0 wx => ∃ k : Nat, k ≤ n ∧ s0 = .int .i64 k ∧ Hid (∀ j p, ol[j]? = some p → k ≤ j → ds < dP p) ∧ Hid (∀ p, ol[k - 1]? = some p → 0 < k → dP p ≤ ds) ∧ w4 = wx)
      case first =>
        go_wp2_with fail
        go_loopw [7] (fun k' wr' => ∃ k : Nat, k ≤ n ∧ k' = .int .i64 k ∧ Hid (∀ j p, ol[j]? = some p → k ≤ j → ds < dP p) ∧ w4 = wr')
          (fun k' _ => (intOf k').toNat)
        case atStart => exact ⟨n, Nat.le_refl _, rfl, Lib.hid (fun j p hj hm => by have := (List.getElem?_eq_some_iff.1 hj).1; rw [HLN.out] at this; omega), rfl⟩
        case round =>
          obtain ⟨k, hk, rfl, HM, hwe⟩ := hrel
          subst hwe
          by_cases hk0 : k = 0
          case pos =>
            have g1 : ¬ (0 : Int) < (k : Int) := by omega
            have g2 : decide ((0 : Int) < (k : Int)) = false := by simpa using hk0
            have g3 : decide (0 < k) = false := by simpa using hk0
            have g4 : ¬ 0 < k := by omega
            have HL : Hid (∀ p, ol[k - 1]? = some p → 0 < k → dP p ≤ ds) := Lib.hid (fun p _ h => by omega)
            clear hk0
            go_wp2
            go_meet
            exact ⟨k, hk, rfl, HM, HL, rfl⟩
          have m1 : 1 ≤ k := by omega
          clear hk0
          obtain ⟨p, hp⟩ := get_of_lt (l := ol) (k := k - 1) (by rw [HLN.out]; omega)
          obtain ⟨bp, hbp⟩ := get_of_lt (l := bs) (k := k - 1) (by rw [HRP4.out.len, HLN.out]; omega)
          have t1 : w4.cell? ⟨bp, 2, none⟩ = some (.int .i64 (dP p)) := (HRP4.out.at_ _ _ _ hbp hp).2 2 _ rfl
          have t0 : w4.cell? ⟨g, k - 1, none⟩ = some (.slice (some ⟨bp, 0, none⟩) 3 3) := by
            have h9 := hrow4.cells (g := g) rfl (k - 1) (slV bp) (by rw [List.getElem?_map, hbp]; rfl)
            rw [Addr.add_lit, Nat.zero_add] at h9
            exact h9
          have mp0 : (0 : Int) < (k : Int) := by omega
          have mp1 : 0 < k := by omega
          have mp2 : (0 : Int) ≤ (k : Int) - 1 := by omega
          have mp3 : (k : Int) - 1 < (n : Int) := by omega
          have mp4 : ((k : Int) - 1).toNat = k - 1 := by omega
          have mp5 : IntKind.i64.wrap ((k : Int) - 1) = (k : Int) - 1 := IntWalk.i64_in _ (by omega)
          have mp6 : (k : Int) ≤ 110 := by omega
          have HP := Lib.hid hp
          clear hp hbp
          generalize hdp : dP p = dp at *
          have HDP := Lib.hid hdp
          clear hdp
          by_cases hgt : ds < dp
          case pos =>
            have HM2 : Hid (∀ j p, ol[j]? = some p → k - 1 ≤ j → ds < dP p) := Lib.hid (fun j u hu hj => by
              by_cases e : j = k - 1
              · subst e; rw [HP.out] at hu; cases hu; rw [HDP.out]; exact hgt
              · exact HM.out j u hu (by omega))
            go_wp2
            go_roundw
            case rel => exact ⟨k - 1, by omega, by go_num, HM2, by first | rfl | trivial⟩
            case measure => first | (simp [intOf]; done) | (simp [intOf]; omega) | (unfold intOf; omega)
          have HL : Hid (∀ p, ol[k - 1]? = some p → 0 < k → dP p ≤ ds) := Lib.hid (fun u hu _ => by
            rw [HP.out] at hu; cases hu; rw [HDP.out]; omega)
          go_wp2
          go_meet
          exact ⟨k, hk, rfl, HM, HL, rfl⟩
      case rest =>
        obtain ⟨k, hk, rfl, HM, HL, hwe⟩ := hcut
        subst hwe
        by_cases hcapm : k = ocap
        case pos =>
          have hkn : k = n := by omega
          subst hkn
          subst hcapm
          have hd9 : bs.drop k = [] := List.drop_of_length_le (by rw [HRP4.out.len, HLN.out]; omega)
          have HSF2 := Lib.hid (soFarP_succ HGL.out HSF.out HS.out HT.out (fun j p h1 h2 => by rw [HDS.out]; exact HM.out j p h1 h2) (fun p h1 h2 => by rw [HDS.out]; exact HL.out p h1 h2) (by rw [HLN.out]; exact hk))
          have hm0 : (0 : Int) ≤ (k : Int) := by omega
          have hm1 : (k : Int) ≤ (k : Int) := by omega
          have hcm5 : (k : Int) ≤ (k : Int) := by omega
          have hcm6 : k ≤ k := by omega
          have KE : Below w4.heap.size w4 (w4.alloc (.cells #[] 27)).drew := ((Below.refl _ _).alloc (Nat.le_refl _) _).drew
          have KT : Below w4.heap.size w4 (w4.alloc (.cells #[.int .i64 s.pId, .int .i64 t.pId, .int .i64 ds] 3)).drew := ((Below.refl _ _).alloc (Nat.le_refl _) _).drew
          have KET : Below w4.heap.size w4 ((w4.alloc (.cells #[] 27)).alloc (.cells #[.int .i64 s.pId, .int .i64 t.pId, .int .i64 ds] 3)).drew := (((Below.refl _ _).alloc (Nat.le_refl _) _).alloc (by first | omega | (simp; done) | (simp; omega)) _).drew
          have KTE : Below w4.heap.size w4 ((w4.alloc (.cells #[.int .i64 s.pId, .int .i64 t.pId, .int .i64 ds] 3)).alloc (.cells #[] 27)).drew := (((Below.refl _ _).alloc (Nat.le_refl _) _).alloc (by first | omega | (simp; done) | (simp; omega)) _).drew
          have KTV : Below w4.heap.size w4 ((w4.alloc (.cells #[.int .i64 s.pId, .int .i64 t.pId, .int .i64 ds] 3)).alloc (.cells #[.slice (some ⟨w4.heap.size, 0, none⟩) 3 3] 27)).drew := (((Below.refl _ _).alloc (Nat.le_refl _) _).alloc (by first | omega | (simp; done) | (simp; omega)) _).drew
          have KETV : Below w4.heap.size w4 (((w4.alloc (.cells #[] 27)).alloc (.cells #[.int .i64 s.pId, .int .i64 t.pId, .int .i64 ds] 3)).alloc (.cells #[.slice (some ⟨w4.heap.size + 1, 0, none⟩) 3 3] 27)).drew := ((((Below.refl _ _).alloc (Nat.le_refl _) _).alloc (by first | omega | (simp; done) | (simp; omega)) _).alloc (by first | omega | (simp; done) | (simp; omega)) _).drew
          have KTEV : Below w4.heap.size w4 (((w4.alloc (.cells #[.int .i64 s.pId, .int .i64 t.pId, .int .i64 ds] 3)).alloc (.cells #[] 27)).alloc (.cells #[.slice (some ⟨w4.heap.size, 0, none⟩) 3 3] 27)).drew := ((((Below.refl _ _).alloc (Nat.le_refl _) _).alloc (by first | omega | (simp; done) | (simp; omega)) _).alloc (by first | omega | (simp; done) | (simp; omega)) _).drew
          have KTVE : Below w4.heap.size w4 (((w4.alloc (.cells #[.int .i64 s.pId, .int .i64 t.pId, .int .i64 ds] 3)).alloc (.cells #[.slice (some ⟨w4.heap.size, 0, none⟩) 3 3] 27)).alloc (.cells #[] 27)).drew := ((((Below.refl _ _).alloc (Nat.le_refl _) _).alloc (by first | omega | (simp; done) | (simp; omega)) _).alloc (by first | omega | (simp; done) | (simp; omega)) _).drew
          have rE : (w4.alloc (.cells #[] 27)).drew.ownsRow w4.heap.size 27 1 (.slice (some ⟨w4.heap.size, 0, none⟩) 0 0) 0 [] := row_empty w4 _ _ (Nat.le_refl _)
          have rET : ((w4.alloc (.cells #[] 27)).alloc (.cells #[.int .i64 s.pId, .int .i64 t.pId, .int .i64 ds] 3)).drew.ownsRow w4.heap.size 27 1 (.slice (some ⟨w4.heap.size, 0, none⟩) 0 0) 0 [] := (row_empty w4 _ _ (Nat.le_refl _)).alloc _
          have rETV : (((w4.alloc (.cells #[] 27)).alloc (.cells #[.int .i64 s.pId, .int .i64 t.pId, .int .i64 ds] 3)).alloc (.cells #[.slice (some ⟨w4.heap.size + 1, 0, none⟩) 3 3] 27)).drew.ownsRow w4.heap.size 27 1 (.slice (some ⟨w4.heap.size, 0, none⟩) 0 0) 0 [] := ((row_empty w4 _ _ (Nat.le_refl _)).alloc _).alloc _
          have rTE : ((w4.alloc (.cells #[.int .i64 s.pId, .int .i64 t.pId, .int .i64 ds] 3)).alloc (.cells #[] 27)).drew.ownsRow w4.heap.size 27 1 (.slice (some ⟨w4.heap.size + 1, 0, none⟩) 0 0) 0 [] := by
            have := row_empty (w4.alloc (.cells #[.int .i64 s.pId, .int .i64 t.pId, .int .i64 ds] 3)) (base := w4.heap.size) 27 1 (by first | omega | (simp; done) | (simp; omega))
            rw [World.size_alloc] at this
            exact this
          have rTEV : (((w4.alloc (.cells #[.int .i64 s.pId, .int .i64 t.pId, .int .i64 ds] 3)).alloc (.cells #[] 27)).alloc (.cells #[.slice (some ⟨w4.heap.size, 0, none⟩) 3 3] 27)).drew.ownsRow w4.heap.size 27 1 (.slice (some ⟨w4.heap.size + 1, 0, none⟩) 0 0) 0 [] := by
            have := (row_empty (w4.alloc (.cells #[.int .i64 s.pId, .int .i64 t.pId, .int .i64 ds] 3)) (base := w4.heap.size) 27 1 (by first | omega | (simp; done) | (simp; omega))).alloc (.cells #[.slice (some ⟨w4.heap.size, 0, none⟩) 3 3] 27)
            rw [World.size_alloc] at this
            exact this
          have rTVE : (((w4.alloc (.cells #[.int .i64 s.pId, .int .i64 t.pId, .int .i64 ds] 3)).alloc (.cells #[.slice (some ⟨w4.heap.size, 0, none⟩) 3 3] 27)).alloc (.cells #[] 27)).drew.ownsRow w4.heap.size 27 1 (.slice (some ⟨w4.heap.size + 2, 0, none⟩) 0 0) 0 [] := by
            have := row_empty ((w4.alloc (.cells #[.int .i64 s.pId, .int .i64 t.pId, .int .i64 ds] 3)).alloc (.cells #[.slice (some ⟨w4.heap.size, 0, none⟩) 3 3] 27)) (base := w4.heap.size) 27 1 (by first | omega | (simp; done) | (simp; omega))
            rw [World.size_alloc, World.size_alloc] at this
            exact this
          have bxT : Bx (w4.alloc (.cells #[.int .i64 s.pId, .int .i64 t.pId, .int .i64 ds] 3)) (w4.heap.size) [.int .i64 s.pId, .int .i64 t.pId, .int .i64 ds] := Bx.new w4 [.int .i64 s.pId, .int .i64 t.pId, .int .i64 ds] 3
          have bxT1 : Bx ((w4.alloc (.cells #[] 27)).alloc (.cells #[.int .i64 s.pId, .int .i64 t.pId, .int .i64 ds] 3)) (w4.heap.size + 1) [.int .i64 s.pId, .int .i64 t.pId, .int .i64 ds] := Bx.new1 w4 (.cells #[] 27) [.int .i64 s.pId, .int .i64 t.pId, .int .i64 ds] 3
          have bxV : Bx ((w4.alloc (.cells #[.int .i64 s.pId, .int .i64 t.pId, .int .i64 ds] 3)).alloc (.cells #[.slice (some ⟨w4.heap.size, 0, none⟩) 3 3] 27)) (w4.heap.size + 1) [.slice (some ⟨w4.heap.size, 0, none⟩) 3 3] := Bx.new1 w4 (.cells #[.int .i64 s.pId, .int .i64 t.pId, .int .i64 ds] 3) [.slice (some ⟨w4.heap.size, 0, none⟩) 3 3] 27
          have bxV2 : Bx (((w4.alloc (.cells #[] 27)).alloc (.cells #[.int .i64 s.pId, .int .i64 t.pId, .int .i64 ds] 3)).alloc (.cells #[.slice (some ⟨w4.heap.size + 1, 0, none⟩) 3 3] 27)) (w4.heap.size + 2) [.slice (some ⟨w4.heap.size + 1, 0, none⟩) 3 3] := by
            have := Bx.new1 (w4.alloc (.cells #[] 27)) (.cells #[.int .i64 s.pId, .int .i64 t.pId, .int .i64 ds] 3) [.slice (some ⟨w4.heap.size + 1, 0, none⟩) 3 3] 27
            rw [World.size_alloc] at this
            exact this
          have bxV3 : Bx (((w4.alloc (.cells #[.int .i64 s.pId, .int .i64 t.pId, .int .i64 ds] 3)).alloc (.cells #[] 27)).alloc (.cells #[.slice (some ⟨w4.heap.size, 0, none⟩) 3 3] 27)) (w4.heap.size + 2) [.slice (some ⟨w4.heap.size, 0, none⟩) 3 3] := by
            have := Bx.new1 (w4.alloc (.cells #[.int .i64 s.pId, .int .i64 t.pId, .int .i64 ds] 3)) (.cells #[] 27) [.slice (some ⟨w4.heap.size, 0, none⟩) 3 3] 27
            rw [World.size_alloc] at this
            exact this
          have one1 : ∀ (bT : Nat), ∀ u ∈ [Value.slice (some ⟨bT, 0, none⟩) 3 3], u.oneCell' = true := by intro bT u hu; simp only [List.mem_singleton] at hu; subst hu; rfl
          have oneB : ∀ u ∈ bs.map slV, u.oneCell' = true := by intro u hu; obtain ⟨b, _, rfl⟩ := List.mem_map.1 hu; rfl
          have hbl0 : (bs.map slV).length = k := by rw [List.length_map, HRP4.out.len, HLN.out]
          have q1 : SrcK w4 1 (.slice (some ⟨g, 0, none⟩) k k) k ((bs.take k).map slV) := by
            have := row_part hrow4 oneB 0 k k (Nat.zero_le _) hk
            simpa [List.map_take] using this
          have q2 : SrcK w4 1 (.slice (some ⟨g, 0, none⟩) 0 0) 0 [] := srcK_nil _ _ _ _
          have HS0 := Lib.hid (show ∀ w', Below w4.heap.size w4 w' → Below w4.heap.size w4 w' ∧ w'.cell? ⟨b1, off1 + i0 * 8, none⟩ = some (.int .i64 s.pId) ∧ w'.cell? ⟨b1, off1 + q * 8, none⟩ = some (.int .i64 t.pId) from fun w' q => ⟨q, cellOf q (cell_of_lt e0) e0, cellOf q (cell_of_lt e1) e1⟩)
          have Q1 := Lib.hid q1
          have Q2 := Lib.hid q2
          have ONE := Lib.hid one1
          clear q1 q2 one1
          go_wp2
          go_region_held3 (fun w' => Below w4.heap.size w4 w' ∧ w'.cell? ⟨b1, off1 + i0 * 8, none⟩ = some (.int .i64 s.pId) ∧ w'.cell? ⟨b1, off1 + q * 8, none⟩ = some (.int .i64 t.pId))
            (first
              | exact HS0.out _ (Below.refl _ _).drew
              | exact HS0.out _ (by with_reducible assumption))
            (first
              | ((with_reducible refine step_at ((((w4.alloc (.cells #[] 27)).alloc (.cells #[.int .i64 s.pId, .int .i64 t.pId, .int .i64 ds] 3)).alloc (.cells #[.slice (some ⟨w4.heap.size + 1, 0, none⟩) 3 3] 27)).drew) ?_); refine step_append_srcK ((((w4.alloc (.cells #[] 27)).alloc (.cells #[.int .i64 s.pId, .int .i64 t.pId, .int .i64 ds] 3)).alloc (.cells #[.slice (some ⟨w4.heap.size + 1, 0, none⟩) 3 3] 27)).drew) (by rfl) _ _ _ (by rfl) w4.heap.size 27 ti (.slice none 0 0) 1 24 Try.underlying47 hi hz0 hz1 hz2 rfl (by decide) _ (0) ([]) (by rfl) (rETV) _ (k) _ (by rfl) (Q1.out.below KETV) (by unfold maxLen; omega) (by omega) (by first | omega | (simp; done) | (simp; omega)) ?_; intro v5 w5 hr5 hg5 hat5; have B5 : Below w4.heap.size w4 w5 := Below.grown KETV hg5 (by first | omega | (simp; done) | (simp; omega)) (by intro q hq; cases hq; simp); have r5 : w5.ownsRow w4.heap.size 27 1 v5 k ((bs.take k).map slV) := (by simpa using hr5); have z5 := B5.size; have y5 : w4.heap.size + 3 ≤ w5.heap.size := (by have := hg5.size; simpa using this); have b5T := (show Bx ((((w4.alloc (.cells #[] 27)).alloc (.cells #[.int .i64 s.pId, .int .i64 t.pId, .int .i64 ds] 3)).alloc (.cells #[.slice (some ⟨w4.heap.size + 1, 0, none⟩) 3 3] 27)).drew) (w4.heap.size + 1) [.int .i64 s.pId, .int .i64 t.pId, .int .i64 ds] from (bxT1.alloc _)).grown (row := some (w4.heap.size)) hg5 (by simp); have hv5 : v5.ownBlock ≠ some (w4.heap.size + 1) := own_ne hat5 (fun e => by have h9 := Option.some.inj (show some (w4.heap.size) = some (w4.heap.size + 1) from e); omega) (by first | omega | (simp; done) | (simp; omega)); have b5V := (show Bx ((((w4.alloc (.cells #[] 27)).alloc (.cells #[.int .i64 s.pId, .int .i64 t.pId, .int .i64 ds] 3)).alloc (.cells #[.slice (some ⟨w4.heap.size + 1, 0, none⟩) 3 3] 27)).drew) (w4.heap.size + 2) [.slice (some ⟨w4.heap.size + 1, 0, none⟩) 3 3] from bxV2).grown (row := some (w4.heap.size)) hg5 (by simp); have b5Ta := b5T; have K5 := B5; clear hr5 hg5 hat5)
              | ((with_reducible refine step_at ((((w4.alloc (.cells #[.int .i64 s.pId, .int .i64 t.pId, .int .i64 ds] 3)).alloc (.cells #[] 27)).alloc (.cells #[.slice (some ⟨w4.heap.size, 0, none⟩) 3 3] 27)).drew) ?_); refine step_append_srcK ((((w4.alloc (.cells #[.int .i64 s.pId, .int .i64 t.pId, .int .i64 ds] 3)).alloc (.cells #[] 27)).alloc (.cells #[.slice (some ⟨w4.heap.size, 0, none⟩) 3 3] 27)).drew) (by rfl) _ _ _ (by rfl) w4.heap.size 27 ti (.slice none 0 0) 1 24 Try.underlying47 hi hz0 hz1 hz2 rfl (by decide) _ (0) ([]) (by rfl) (rTEV) _ (k) _ (by rfl) (Q1.out.below KTEV) (by unfold maxLen; omega) (by omega) (by first | omega | (simp; done) | (simp; omega)) ?_; intro v5 w5 hr5 hg5 hat5; have B5 : Below w4.heap.size w4 w5 := Below.grown KTEV hg5 (by first | omega | (simp; done) | (simp; omega)) (by intro q hq; cases hq; simp); have r5 : w5.ownsRow w4.heap.size 27 1 v5 k ((bs.take k).map slV) := (by simpa using hr5); have z5 := B5.size; have y5 : w4.heap.size + 3 ≤ w5.heap.size := (by have := hg5.size; simpa using this); have b5T := (show Bx ((((w4.alloc (.cells #[.int .i64 s.pId, .int .i64 t.pId, .int .i64 ds] 3)).alloc (.cells #[] 27)).alloc (.cells #[.slice (some ⟨w4.heap.size, 0, none⟩) 3 3] 27)).drew) (w4.heap.size) [.int .i64 s.pId, .int .i64 t.pId, .int .i64 ds] from ((bxT.alloc _).alloc _)).grown (row := some (w4.heap.size + 1)) hg5 (by simp); have hv5 : v5.ownBlock ≠ some (w4.heap.size) := own_ne hat5 (fun e => by have h9 := Option.some.inj (show some (w4.heap.size + 1) = some (w4.heap.size) from e); omega) (by first | omega | (simp; done) | (simp; omega)); have b5V := (show Bx ((((w4.alloc (.cells #[.int .i64 s.pId, .int .i64 t.pId, .int .i64 ds] 3)).alloc (.cells #[] 27)).alloc (.cells #[.slice (some ⟨w4.heap.size, 0, none⟩) 3 3] 27)).drew) (w4.heap.size + 2) [.slice (some ⟨w4.heap.size, 0, none⟩) 3 3] from bxV3).grown (row := some (w4.heap.size + 1)) hg5 (by simp); have b5Ta := b5T; have K5 := B5; clear hr5 hg5 hat5)
              | ((with_reducible refine step_at ((((w4.alloc (.cells #[.int .i64 s.pId, .int .i64 t.pId, .int .i64 ds] 3)).alloc (.cells #[.slice (some ⟨w4.heap.size, 0, none⟩) 3 3] 27)).alloc (.cells #[] 27)).drew) ?_); refine step_append_srcK ((((w4.alloc (.cells #[.int .i64 s.pId, .int .i64 t.pId, .int .i64 ds] 3)).alloc (.cells #[.slice (some ⟨w4.heap.size, 0, none⟩) 3 3] 27)).alloc (.cells #[] 27)).drew) (by rfl) _ _ _ (by rfl) w4.heap.size 27 ti (.slice none 0 0) 1 24 Try.underlying47 hi hz0 hz1 hz2 rfl (by decide) _ (0) ([]) (by rfl) (rTVE) _ (k) _ (by rfl) (Q1.out.below KTVE) (by unfold maxLen; omega) (by omega) (by first | omega | (simp; done) | (simp; omega)) ?_; intro v5 w5 hr5 hg5 hat5; have B5 : Below w4.heap.size w4 w5 := Below.grown KTVE hg5 (by first | omega | (simp; done) | (simp; omega)) (by intro q hq; cases hq; simp); have r5 : w5.ownsRow w4.heap.size 27 1 v5 k ((bs.take k).map slV) := (by simpa using hr5); have z5 := B5.size; have y5 : w4.heap.size + 3 ≤ w5.heap.size := (by have := hg5.size; simpa using this); have b5T := (show Bx ((((w4.alloc (.cells #[.int .i64 s.pId, .int .i64 t.pId, .int .i64 ds] 3)).alloc (.cells #[.slice (some ⟨w4.heap.size, 0, none⟩) 3 3] 27)).alloc (.cells #[] 27)).drew) (w4.heap.size) [.int .i64 s.pId, .int .i64 t.pId, .int .i64 ds] from ((bxT.alloc _).alloc _)).grown (row := some (w4.heap.size + 2)) hg5 (by simp); have hv5 : v5.ownBlock ≠ some (w4.heap.size) := own_ne hat5 (fun e => by have h9 := Option.some.inj (show some (w4.heap.size + 2) = some (w4.heap.size) from e); omega) (by first | omega | (simp; done) | (simp; omega)); have b5V := (show Bx ((((w4.alloc (.cells #[.int .i64 s.pId, .int .i64 t.pId, .int .i64 ds] 3)).alloc (.cells #[.slice (some ⟨w4.heap.size, 0, none⟩) 3 3] 27)).alloc (.cells #[] 27)).drew) (w4.heap.size + 1) [.slice (some ⟨w4.heap.size, 0, none⟩) 3 3] from (bxV.alloc _)).grown (row := some (w4.heap.size + 2)) hg5 (by simp); have b5Ta := b5T; have K5 := B5; clear hr5 hg5 hat5)
              | ((with_reducible refine step_at (((w4.alloc (.cells #[] 27)).alloc (.cells #[.int .i64 s.pId, .int .i64 t.pId, .int .i64 ds] 3)).drew) ?_); refine step_append_srcK (((w4.alloc (.cells #[] 27)).alloc (.cells #[.int .i64 s.pId, .int .i64 t.pId, .int .i64 ds] 3)).drew) (by rfl) _ _ _ (by rfl) w4.heap.size 27 ti (.slice none 0 0) 1 24 Try.underlying47 hi hz0 hz1 hz2 rfl (by decide) _ (0) ([]) (by rfl) (rET) _ (k) _ (by rfl) (Q1.out.below KET) (by unfold maxLen; omega) (by omega) (by first | omega | (simp; done) | (simp; omega)) ?_; intro v5 w5 hr5 hg5 hat5; have B5 : Below w4.heap.size w4 w5 := Below.grown KET hg5 (by first | omega | (simp; done) | (simp; omega)) (by intro q hq; cases hq; simp); have r5 : w5.ownsRow w4.heap.size 27 1 v5 k ((bs.take k).map slV) := (by simpa using hr5); have z5 := B5.size; have y5 : w4.heap.size + 2 ≤ w5.heap.size := (by have := hg5.size; simpa using this); have b5T := (show Bx (((w4.alloc (.cells #[] 27)).alloc (.cells #[.int .i64 s.pId, .int .i64 t.pId, .int .i64 ds] 3)).drew) (w4.heap.size + 1) [.int .i64 s.pId, .int .i64 t.pId, .int .i64 ds] from bxT1).grown (row := some (w4.heap.size)) hg5 (by simp); have hv5 : v5.ownBlock ≠ some (w4.heap.size + 1) := own_ne hat5 (fun e => by have h9 := Option.some.inj (show some (w4.heap.size) = some (w4.heap.size + 1) from e); omega) (by first | omega | (simp; done) | (simp; omega)); have K5 : Below w4.heap.size w4 (w5.alloc (.cells #[.slice (some ⟨w4.heap.size + 1, 0, none⟩) 3 3] 27)) := B5.alloc B5.size _; have b5V : Bx (w5.alloc (.cells #[.slice (some ⟨w4.heap.size + 1, 0, none⟩) 3 3] 27)) w5.heap.size [.slice (some ⟨w4.heap.size + 1, 0, none⟩) 3 3] := Bx.new w5 _ 27; have b5Ta := b5T.alloc (.cells #[.slice (some ⟨w4.heap.size + 1, 0, none⟩) 3 3] 27); clear hr5 hg5 hat5)
              | ((with_reducible refine step_at (((w4.alloc (.cells #[.int .i64 s.pId, .int .i64 t.pId, .int .i64 ds] 3)).alloc (.cells #[] 27)).drew) ?_); refine step_append_srcK (((w4.alloc (.cells #[.int .i64 s.pId, .int .i64 t.pId, .int .i64 ds] 3)).alloc (.cells #[] 27)).drew) (by rfl) _ _ _ (by rfl) w4.heap.size 27 ti (.slice none 0 0) 1 24 Try.underlying47 hi hz0 hz1 hz2 rfl (by decide) _ (0) ([]) (by rfl) (rTE) _ (k) _ (by rfl) (Q1.out.below KTE) (by unfold maxLen; omega) (by omega) (by first | omega | (simp; done) | (simp; omega)) ?_; intro v5 w5 hr5 hg5 hat5; have B5 : Below w4.heap.size w4 w5 := Below.grown KTE hg5 (by first | omega | (simp; done) | (simp; omega)) (by intro q hq; cases hq; simp); have r5 : w5.ownsRow w4.heap.size 27 1 v5 k ((bs.take k).map slV) := (by simpa using hr5); have z5 := B5.size; have y5 : w4.heap.size + 2 ≤ w5.heap.size := (by have := hg5.size; simpa using this); have b5T := (show Bx (((w4.alloc (.cells #[.int .i64 s.pId, .int .i64 t.pId, .int .i64 ds] 3)).alloc (.cells #[] 27)).drew) (w4.heap.size) [.int .i64 s.pId, .int .i64 t.pId, .int .i64 ds] from (bxT.alloc _)).grown (row := some (w4.heap.size + 1)) hg5 (by simp); have hv5 : v5.ownBlock ≠ some (w4.heap.size) := own_ne hat5 (fun e => by have h9 := Option.some.inj (show some (w4.heap.size + 1) = some (w4.heap.size) from e); omega) (by first | omega | (simp; done) | (simp; omega)); have K5 : Below w4.heap.size w4 (w5.alloc (.cells #[.slice (some ⟨w4.heap.size, 0, none⟩) 3 3] 27)) := B5.alloc B5.size _; have b5V : Bx (w5.alloc (.cells #[.slice (some ⟨w4.heap.size, 0, none⟩) 3 3] 27)) w5.heap.size [.slice (some ⟨w4.heap.size, 0, none⟩) 3 3] := Bx.new w5 _ 27; have b5Ta := b5T.alloc (.cells #[.slice (some ⟨w4.heap.size, 0, none⟩) 3 3] 27); clear hr5 hg5 hat5)
              | ((with_reducible refine step_at ((w4.alloc (.cells #[] 27)).drew) ?_); refine step_append_srcK ((w4.alloc (.cells #[] 27)).drew) (by rfl) _ _ _ (by rfl) w4.heap.size 27 ti (.slice none 0 0) 1 24 Try.underlying47 hi hz0 hz1 hz2 rfl (by decide) _ (0) ([]) (by rfl) (rE) _ (k) _ (by rfl) (Q1.out.below KE) (by unfold maxLen; omega) (by omega) (by first | omega | (simp; done) | (simp; omega)) ?_; intro v5 w5 hr5 hg5 hat5; have B5 : Below w4.heap.size w4 w5 := Below.grown KE hg5 (by first | omega | (simp; done) | (simp; omega)) (by intro q hq; cases hq; simp); have r5 : w5.ownsRow w4.heap.size 27 1 v5 k ((bs.take k).map slV) := (by simpa using hr5); have z5 := B5.size; have y5 : w4.heap.size + 1 ≤ w5.heap.size := (by have := hg5.size; simpa using this); have K5a : Below w4.heap.size w4 (w5.alloc (.cells #[.int .i64 s.pId, .int .i64 t.pId, .int .i64 ds] 3)) := B5.alloc B5.size _; have K5 : Below w4.heap.size w4 ((w5.alloc (.cells #[.int .i64 s.pId, .int .i64 t.pId, .int .i64 ds] 3)).alloc (.cells #[.slice (some ⟨w5.heap.size, 0, none⟩) 3 3] 27)) := K5a.alloc K5a.size _; have b5V : Bx ((w5.alloc (.cells #[.int .i64 s.pId, .int .i64 t.pId, .int .i64 ds] 3)).alloc (.cells #[.slice (some ⟨w5.heap.size, 0, none⟩) 3 3] 27)) (w5.heap.size + 1) [.slice (some ⟨w5.heap.size, 0, none⟩) 3 3] := Bx.new1 w5 _ _ 27; have b5Ta : Bx ((w5.alloc (.cells #[.int .i64 s.pId, .int .i64 t.pId, .int .i64 ds] 3)).alloc (.cells #[.slice (some ⟨w5.heap.size, 0, none⟩) 3 3] 27)) w5.heap.size [.int .i64 s.pId, .int .i64 t.pId, .int .i64 ds] := (Bx.new w5 [.int .i64 s.pId, .int .i64 t.pId, .int .i64 ds] 3).alloc _; have hv5 : v5.ownBlock ≠ some w5.heap.size := (by intro e; have := (r5.lt _ e).2; omega); clear hr5 hg5 hat5)
              | ((with_reducible refine step_at (w5) ?_); refine step_append_srcK (w5) (by rfl) _ _ _ (by rfl) w4.heap.size 27 ti (.slice none 0 0) 1 24 Try.underlying47 hi hz0 hz1 hz2 rfl (by decide) _ (k) ((bs.take k).map slV) (by rfl) (r5) _ (1) _ (by rfl) (srcK_box b5V (ONE.out _)) (by unfold maxLen; omega) (by omega) (z5) ?_; intro v6 w6 hr6 hg6 hat6; have B6 : Below w4.heap.size w4 w6 := Below.grown B5 hg6 (by first | omega | (simp; done) | (simp; omega)) (fun q hq => (r5.lt q hq).1); have r6 := hr6; have z6 := B6.size; have b6T := b5Ta.grown hg6 (by first | exact hv5 | exact fun e => hv5 e.symm); have hv6 : v6.ownBlock ≠ some (w4.heap.size + 1) := own_ne hat6 hv5 (by first | omega | (simp; done) | (simp; omega)); clear hr6 hg6 hat6)
              | ((with_reducible refine step_at (w5) ?_); refine step_append_srcK (w5) (by rfl) _ _ _ (by rfl) w4.heap.size 27 ti (.slice none 0 0) 1 24 Try.underlying47 hi hz0 hz1 hz2 rfl (by decide) _ (k) ((bs.take k).map slV) (by rfl) (r5) _ (1) _ (by rfl) (srcK_box b5V (ONE.out _)) (by unfold maxLen; omega) (by omega) (z5) ?_; intro v6 w6 hr6 hg6 hat6; have B6 : Below w4.heap.size w4 w6 := Below.grown B5 hg6 (by first | omega | (simp; done) | (simp; omega)) (fun q hq => (r5.lt q hq).1); have r6 := hr6; have z6 := B6.size; have b6T := b5Ta.grown hg6 (by first | exact hv5 | exact fun e => hv5 e.symm); have hv6 : v6.ownBlock ≠ some (w4.heap.size) := own_ne hat6 hv5 (by first | omega | (simp; done) | (simp; omega)); clear hr6 hg6 hat6)
              | ((with_reducible refine step_at (w5.alloc (.cells #[.slice (some ⟨w4.heap.size + 1, 0, none⟩) 3 3] 27)) ?_); refine step_append_srcK (w5.alloc (.cells #[.slice (some ⟨w4.heap.size + 1, 0, none⟩) 3 3] 27)) (by rfl) _ _ _ (by rfl) w4.heap.size 27 ti (.slice none 0 0) 1 24 Try.underlying47 hi hz0 hz1 hz2 rfl (by decide) _ (k) ((bs.take k).map slV) (by rfl) (r5.alloc _) _ (1) _ (by rfl) (srcK_box b5V (ONE.out _)) (by unfold maxLen; omega) (by omega) (by first | omega | (simp; done) | (simp; omega)) ?_; intro v6 w6 hr6 hg6 hat6; have B6 : Below w4.heap.size w4 w6 := Below.grown K5 hg6 (by first | omega | (simp; done) | (simp; omega)) (fun q hq => (r5.lt q hq).1); have r6 := hr6; have z6 := B6.size; have b6T := b5Ta.grown hg6 (by first | exact hv5 | exact fun e => hv5 e.symm); have hv6 : v6.ownBlock ≠ some (w4.heap.size + 1) := own_ne hat6 hv5 (by first | omega | (simp; done) | (simp; omega)); clear hr6 hg6 hat6)
              | ((with_reducible refine step_at (w5.alloc (.cells #[.slice (some ⟨w4.heap.size, 0, none⟩) 3 3] 27)) ?_); refine step_append_srcK (w5.alloc (.cells #[.slice (some ⟨w4.heap.size, 0, none⟩) 3 3] 27)) (by rfl) _ _ _ (by rfl) w4.heap.size 27 ti (.slice none 0 0) 1 24 Try.underlying47 hi hz0 hz1 hz2 rfl (by decide) _ (k) ((bs.take k).map slV) (by rfl) (r5.alloc _) _ (1) _ (by rfl) (srcK_box b5V (ONE.out _)) (by unfold maxLen; omega) (by omega) (by first | omega | (simp; done) | (simp; omega)) ?_; intro v6 w6 hr6 hg6 hat6; have B6 : Below w4.heap.size w4 w6 := Below.grown K5 hg6 (by first | omega | (simp; done) | (simp; omega)) (fun q hq => (r5.lt q hq).1); have r6 := hr6; have z6 := B6.size; have b6T := b5Ta.grown hg6 (by first | exact hv5 | exact fun e => hv5 e.symm); have hv6 : v6.ownBlock ≠ some (w4.heap.size) := own_ne hat6 hv5 (by first | omega | (simp; done) | (simp; omega)); clear hr6 hg6 hat6)
              | ((with_reducible refine step_at ((w5.alloc (.cells #[.int .i64 s.pId, .int .i64 t.pId, .int .i64 ds] 3)).alloc (.cells #[.slice (some ⟨w5.heap.size, 0, none⟩) 3 3] 27)) ?_); refine step_append_srcK ((w5.alloc (.cells #[.int .i64 s.pId, .int .i64 t.pId, .int .i64 ds] 3)).alloc (.cells #[.slice (some ⟨w5.heap.size, 0, none⟩) 3 3] 27)) (by rfl) _ _ _ (by rfl) w4.heap.size 27 ti (.slice none 0 0) 1 24 Try.underlying47 hi hz0 hz1 hz2 rfl (by decide) _ (k) ((bs.take k).map slV) (by rfl) ((r5.alloc _).alloc _) _ (1) _ (by rfl) (srcK_box b5V (ONE.out _)) (by unfold maxLen; omega) (by omega) (by first | omega | (simp; done) | (simp; omega)) ?_; intro v6 w6 hr6 hg6 hat6; have B6 : Below w4.heap.size w4 w6 := Below.grown K5 hg6 (by first | omega | (simp; done) | (simp; omega)) (fun q hq => (r5.lt q hq).1); have r6 := hr6; have z6 := B6.size; have b6T := b5Ta.grown hg6 (by first | exact hv5 | exact fun e => hv5 e.symm); have hv6 : v6.ownBlock ≠ some (w5.heap.size) := own_ne hat6 hv5 (by first | omega | (simp; done) | (simp; omega)); clear hr6 hg6 hat6)
              | ((with_reducible refine step_at (w6) ?_); refine step_append_srcK (w6) (by rfl) _ _ _ (by rfl) w4.heap.size 27 ti (.slice none 0 0) 1 24 Try.underlying47 hi hz0 hz1 hz2 rfl (by decide) _ (k + 1) (_) (by rfl) (r6) _ (0) _ (by rfl) (Q2.out.below B6) (by unfold maxLen; omega) (by omega) (z6) ?_; intro v7 w7 hr7 hg7 hat7; have B7 : Below w4.heap.size w4 w7 := Below.grown B6 hg7 (by first | omega | (simp; done) | (simp; omega)) (fun q hq => (r6.lt q hq).1); have r7 := hr7; have z7 := B7.size; have b7T := b6T.grown hg7 (by first | exact hv6 | exact fun e => hv6 e.symm); have hv7 := (show _ from hat7); clear hr7 hg7))
          all_goals
            have r71 := rows_nil hd9 r7
            clear r7
            have r7 := r71
            clear r71
            obtain ⟨g7, cap7, rfl, hc7, hm7, hL7, hg7⟩ := row_some r7 (by omega)
            have RP7 := rowsP_ins HRP4.out (by rw [HLN.out]; exact hk) b7T rfl (by rw [HDS.out]) hsz4w (by first | exact Nat.le_refl _ | omega) B7 (fun e => own_ne hat7 hv6 (by have := b6T.1.1; omega) (congrArg some e)) hL7
            have r8 := rows_eq (Go.Joins.ownsRow_le r7 (base' := w.heap.size) (by omega))
            have C7 : Below w.heap.size w w7 := hbl4.trans (B7.mono (by omega))
            clear r7
            go_wp2
            go_roundw
            case rel => exact ⟨q + 1, m + 1, k + 1, g7, cap7, _, _, by have := HQM.out; omega, by omega, by go_num, rfl, HSF2, r8, Lib.hid RP7, hc7, hm7, C7⟩
            case measure => simp [intOf]; omega
        have HSF2 := Lib.hid (soFarP_succ HGL.out HSF.out HS.out HT.out (fun j p h1 h2 => by rw [HDS.out]; exact HM.out j p h1 h2) (fun p h1 h2 => by rw [HDS.out]; exact HL.out p h1 h2) (by rw [HLN.out]; exact hk))
        have hm0 : (0 : Int) ≤ (k : Int) := by omega
        have hm1 : (k : Int) ≤ (n : Int) := by omega
        have hcm5 : (k : Int) ≤ (ocap : Int) := by omega
        have hcm6 : k ≤ ocap := by omega
        have KE : Below w4.heap.size w4 (w4.alloc (.cells #[] 27)).drew := ((Below.refl _ _).alloc (Nat.le_refl _) _).drew
        have KT : Below w4.heap.size w4 (w4.alloc (.cells #[.int .i64 s.pId, .int .i64 t.pId, .int .i64 ds] 3)).drew := ((Below.refl _ _).alloc (Nat.le_refl _) _).drew
        have KET : Below w4.heap.size w4 ((w4.alloc (.cells #[] 27)).alloc (.cells #[.int .i64 s.pId, .int .i64 t.pId, .int .i64 ds] 3)).drew := (((Below.refl _ _).alloc (Nat.le_refl _) _).alloc (by first | omega | (simp; done) | (simp; omega)) _).drew
        have KTE : Below w4.heap.size w4 ((w4.alloc (.cells #[.int .i64 s.pId, .int .i64 t.pId, .int .i64 ds] 3)).alloc (.cells #[] 27)).drew := (((Below.refl _ _).alloc (Nat.le_refl _) _).alloc (by first | omega | (simp; done) | (simp; omega)) _).drew
        have KTV : Below w4.heap.size w4 ((w4.alloc (.cells #[.int .i64 s.pId, .int .i64 t.pId, .int .i64 ds] 3)).alloc (.cells #[.slice (some ⟨w4.heap.size, 0, none⟩) 3 3] 27)).drew := (((Below.refl _ _).alloc (Nat.le_refl _) _).alloc (by first | omega | (simp; done) | (simp; omega)) _).drew
        have KETV : Below w4.heap.size w4 (((w4.alloc (.cells #[] 27)).alloc (.cells #[.int .i64 s.pId, .int .i64 t.pId, .int .i64 ds] 3)).alloc (.cells #[.slice (some ⟨w4.heap.size + 1, 0, none⟩) 3 3] 27)).drew := ((((Below.refl _ _).alloc (Nat.le_refl _) _).alloc (by first | omega | (simp; done) | (simp; omega)) _).alloc (by first | omega | (simp; done) | (simp; omega)) _).drew
        have KTEV : Below w4.heap.size w4 (((w4.alloc (.cells #[.int .i64 s.pId, .int .i64 t.pId, .int .i64 ds] 3)).alloc (.cells #[] 27)).alloc (.cells #[.slice (some ⟨w4.heap.size, 0, none⟩) 3 3] 27)).drew := ((((Below.refl _ _).alloc (Nat.le_refl _) _).alloc (by first | omega | (simp; done) | (simp; omega)) _).alloc (by first | omega | (simp; done) | (simp; omega)) _).drew
        have KTVE : Below w4.heap.size w4 (((w4.alloc (.cells #[.int .i64 s.pId, .int .i64 t.pId, .int .i64 ds] 3)).alloc (.cells #[.slice (some ⟨w4.heap.size, 0, none⟩) 3 3] 27)).alloc (.cells #[] 27)).drew := ((((Below.refl _ _).alloc (Nat.le_refl _) _).alloc (by first | omega | (simp; done) | (simp; omega)) _).alloc (by first | omega | (simp; done) | (simp; omega)) _).drew
        have rE : (w4.alloc (.cells #[] 27)).drew.ownsRow w4.heap.size 27 1 (.slice (some ⟨w4.heap.size, 0, none⟩) 0 0) 0 [] := row_empty w4 _ _ (Nat.le_refl _)
        have rET : ((w4.alloc (.cells #[] 27)).alloc (.cells #[.int .i64 s.pId, .int .i64 t.pId, .int .i64 ds] 3)).drew.ownsRow w4.heap.size 27 1 (.slice (some ⟨w4.heap.size, 0, none⟩) 0 0) 0 [] := (row_empty w4 _ _ (Nat.le_refl _)).alloc _
        have rETV : (((w4.alloc (.cells #[] 27)).alloc (.cells #[.int .i64 s.pId, .int .i64 t.pId, .int .i64 ds] 3)).alloc (.cells #[.slice (some ⟨w4.heap.size + 1, 0, none⟩) 3 3] 27)).drew.ownsRow w4.heap.size 27 1 (.slice (some ⟨w4.heap.size, 0, none⟩) 0 0) 0 [] := ((row_empty w4 _ _ (Nat.le_refl _)).alloc _).alloc _
        have rTE : ((w4.alloc (.cells #[.int .i64 s.pId, .int .i64 t.pId, .int .i64 ds] 3)).alloc (.cells #[] 27)).drew.ownsRow w4.heap.size 27 1 (.slice (some ⟨w4.heap.size + 1, 0, none⟩) 0 0) 0 [] := by
          have := row_empty (w4.alloc (.cells #[.int .i64 s.pId, .int .i64 t.pId, .int .i64 ds] 3)) (base := w4.heap.size) 27 1 (by first | omega | (simp; done) | (simp; omega))
          rw [World.size_alloc] at this
          exact this
        have rTEV : (((w4.alloc (.cells #[.int .i64 s.pId, .int .i64 t.pId, .int .i64 ds] 3)).alloc (.cells #[] 27)).alloc (.cells #[.slice (some ⟨w4.heap.size, 0, none⟩) 3 3] 27)).drew.ownsRow w4.heap.size 27 1 (.slice (some ⟨w4.heap.size + 1, 0, none⟩) 0 0) 0 [] := by
          have := (row_empty (w4.alloc (.cells #[.int .i64 s.pId, .int .i64 t.pId, .int .i64 ds] 3)) (base := w4.heap.size) 27 1 (by first | omega | (simp; done) | (simp; omega))).alloc (.cells #[.slice (some ⟨w4.heap.size, 0, none⟩) 3 3] 27)
          rw [World.size_alloc] at this
          exact this
        have rTVE : (((w4.alloc (.cells #[.int .i64 s.pId, .int .i64 t.pId, .int .i64 ds] 3)).alloc (.cells #[.slice (some ⟨w4.heap.size, 0, none⟩) 3 3] 27)).alloc (.cells #[] 27)).drew.ownsRow w4.heap.size 27 1 (.slice (some ⟨w4.heap.size + 2, 0, none⟩) 0 0) 0 [] := by
          have := row_empty ((w4.alloc (.cells #[.int .i64 s.pId, .int .i64 t.pId, .int .i64 ds] 3)).alloc (.cells #[.slice (some ⟨w4.heap.size, 0, none⟩) 3 3] 27)) (base := w4.heap.size) 27 1 (by first | omega | (simp; done) | (simp; omega))
          rw [World.size_alloc, World.size_alloc] at this
          exact this
        have bxT : Bx (w4.alloc (.cells #[.int .i64 s.pId, .int .i64 t.pId, .int .i64 ds] 3)) (w4.heap.size) [.int .i64 s.pId, .int .i64 t.pId, .int .i64 ds] := Bx.new w4 [.int .i64 s.pId, .int .i64 t.pId, .int .i64 ds] 3
        have bxT1 : Bx ((w4.alloc (.cells #[] 27)).alloc (.cells #[.int .i64 s.pId, .int .i64 t.pId, .int .i64 ds] 3)) (w4.heap.size + 1) [.int .i64 s.pId, .int .i64 t.pId, .int .i64 ds] := Bx.new1 w4 (.cells #[] 27) [.int .i64 s.pId, .int .i64 t.pId, .int .i64 ds] 3
        have bxV : Bx ((w4.alloc (.cells #[.int .i64 s.pId, .int .i64 t.pId, .int .i64 ds] 3)).alloc (.cells #[.slice (some ⟨w4.heap.size, 0, none⟩) 3 3] 27)) (w4.heap.size + 1) [.slice (some ⟨w4.heap.size, 0, none⟩) 3 3] := Bx.new1 w4 (.cells #[.int .i64 s.pId, .int .i64 t.pId, .int .i64 ds] 3) [.slice (some ⟨w4.heap.size, 0, none⟩) 3 3] 27
        have bxV2 : Bx (((w4.alloc (.cells #[] 27)).alloc (.cells #[.int .i64 s.pId, .int .i64 t.pId, .int .i64 ds] 3)).alloc (.cells #[.slice (some ⟨w4.heap.size + 1, 0, none⟩) 3 3] 27)) (w4.heap.size + 2) [.slice (some ⟨w4.heap.size + 1, 0, none⟩) 3 3] := by
          have := Bx.new1 (w4.alloc (.cells #[] 27)) (.cells #[.int .i64 s.pId, .int .i64 t.pId, .int .i64 ds] 3) [.slice (some ⟨w4.heap.size + 1, 0, none⟩) 3 3] 27
          rw [World.size_alloc] at this
          exact this
        have bxV3 : Bx (((w4.alloc (.cells #[.int .i64 s.pId, .int .i64 t.pId, .int .i64 ds] 3)).alloc (.cells #[] 27)).alloc (.cells #[.slice (some ⟨w4.heap.size, 0, none⟩) 3 3] 27)) (w4.heap.size + 2) [.slice (some ⟨w4.heap.size, 0, none⟩) 3 3] := by
          have := Bx.new1 (w4.alloc (.cells #[.int .i64 s.pId, .int .i64 t.pId, .int .i64 ds] 3)) (.cells #[] 27) [.slice (some ⟨w4.heap.size, 0, none⟩) 3 3] 27
          rw [World.size_alloc] at this
          exact this
        have one1 : ∀ (bT : Nat), ∀ u ∈ [Value.slice (some ⟨bT, 0, none⟩) 3 3], u.oneCell' = true := by intro bT u hu; simp only [List.mem_singleton] at hu; subst hu; rfl
        have oneB : ∀ u ∈ bs.map slV, u.oneCell' = true := by intro u hu; obtain ⟨b, _, rfl⟩ := List.mem_map.1 hu; rfl
        have hbl0 : (bs.map slV).length = n := by rw [List.length_map, HRP4.out.len, HLN.out]
        have q1 : SrcK w4 1 (.slice (some ⟨g, 0, none⟩) k ocap) k ((bs.take k).map slV) := by
          have := row_part hrow4 oneB 0 k ocap (Nat.zero_le _) hk
          simpa [List.map_take] using this
        have q2 : SrcK w4 1 (.slice (some ⟨g, k, none⟩) (n - k) (ocap - k)) (n - k) ((bs.drop k).map slV) := by
          have := row_part hrow4 oneB k n (ocap - k) hk (Nat.le_refl _)
          rw [Nat.mul_one, Nat.mul_one, List.take_of_length_le (by rw [List.length_drop, hbl0]; exact Nat.le_refl _), ← List.map_drop] at this
          exact this
        have HS0 := Lib.hid (show ∀ w', Below w4.heap.size w4 w' → Below w4.heap.size w4 w' ∧ w'.cell? ⟨b1, off1 + i0 * 8, none⟩ = some (.int .i64 s.pId) ∧ w'.cell? ⟨b1, off1 + q * 8, none⟩ = some (.int .i64 t.pId) from fun w' q => ⟨q, cellOf q (cell_of_lt e0) e0, cellOf q (cell_of_lt e1) e1⟩)
        have Q1 := Lib.hid q1
        have Q2 := Lib.hid q2
        have ONE := Lib.hid one1
        clear q1 q2 one1
        have hcm : ¬ k = ocap := hcapm
        have hcm4 : ¬ ocap = k := fun h => hcapm h.symm
        have hcm7 : (n : Int) ≤ (ocap : Int) := by omega
        have hcm8 : ¬ (ocap : Int) < (k : Int) := by omega
        have hcm9 : ¬ (n : Int) < (k : Int) := by omega
        have hcm3 : k ≤ n := hk
        go_wp2
        go_region_held3 (fun w' => Below w4.heap.size w4 w' ∧ w'.cell? ⟨b1, off1 + i0 * 8, none⟩ = some (.int .i64 s.pId) ∧ w'.cell? ⟨b1, off1 + q * 8, none⟩ = some (.int .i64 t.pId))
          (first
            | exact HS0.out _ (Below.refl _ _).drew
            | exact HS0.out _ (by with_reducible assumption))
          (first
            | ((with_reducible refine step_at ((((w4.alloc (.cells #[] 27)).alloc (.cells #[.int .i64 s.pId, .int .i64 t.pId, .int .i64 ds] 3)).alloc (.cells #[.slice (some ⟨w4.heap.size + 1, 0, none⟩) 3 3] 27)).drew) ?_); refine step_append_srcK ((((w4.alloc (.cells #[] 27)).alloc (.cells #[.int .i64 s.pId, .int .i64 t.pId, .int .i64 ds] 3)).alloc (.cells #[.slice (some ⟨w4.heap.size + 1, 0, none⟩) 3 3] 27)).drew) (by rfl) _ _ _ (by rfl) w4.heap.size 27 ti (.slice none 0 0) 1 24 Try.underlying47 hi hz0 hz1 hz2 rfl (by decide) _ (0) ([]) (by rfl) (rETV) _ (k) _ (by rfl) (Q1.out.below KETV) (by unfold maxLen; omega) (by omega) (by first | omega | (simp; done) | (simp; omega)) ?_; intro v5 w5 hr5 hg5 hat5; have B5 : Below w4.heap.size w4 w5 := Below.grown KETV hg5 (by first | omega | (simp; done) | (simp; omega)) (by intro q hq; cases hq; simp); have r5 : w5.ownsRow w4.heap.size 27 1 v5 k ((bs.take k).map slV) := (by simpa using hr5); have z5 := B5.size; have y5 : w4.heap.size + 3 ≤ w5.heap.size := (by have := hg5.size; simpa using this); have b5T := (show Bx ((((w4.alloc (.cells #[] 27)).alloc (.cells #[.int .i64 s.pId, .int .i64 t.pId, .int .i64 ds] 3)).alloc (.cells #[.slice (some ⟨w4.heap.size + 1, 0, none⟩) 3 3] 27)).drew) (w4.heap.size + 1) [.int .i64 s.pId, .int .i64 t.pId, .int .i64 ds] from (bxT1.alloc _)).grown (row := some (w4.heap.size)) hg5 (by simp); have hv5 : v5.ownBlock ≠ some (w4.heap.size + 1) := own_ne hat5 (fun e => by have h9 := Option.some.inj (show some (w4.heap.size) = some (w4.heap.size + 1) from e); omega) (by first | omega | (simp; done) | (simp; omega)); have b5V := (show Bx ((((w4.alloc (.cells #[] 27)).alloc (.cells #[.int .i64 s.pId, .int .i64 t.pId, .int .i64 ds] 3)).alloc (.cells #[.slice (some ⟨w4.heap.size + 1, 0, none⟩) 3 3] 27)).drew) (w4.heap.size + 2) [.slice (some ⟨w4.heap.size + 1, 0, none⟩) 3 3] from bxV2).grown (row := some (w4.heap.size)) hg5 (by simp); have b5Ta := b5T; have K5 := B5; clear hr5 hg5 hat5)
            | ((with_reducible refine step_at ((((w4.alloc (.cells #[.int .i64 s.pId, .int .i64 t.pId, .int .i64 ds] 3)).alloc (.cells #[] 27)).alloc (.cells #[.slice (some ⟨w4.heap.size, 0, none⟩) 3 3] 27)).drew) ?_); refine step_append_srcK ((((w4.alloc (.cells #[.int .i64 s.pId, .int .i64 t.pId, .int .i64 ds] 3)).alloc (.cells #[] 27)).alloc (.cells #[.slice (some ⟨w4.heap.size, 0, none⟩) 3 3] 27)).drew) (by rfl) _ _ _ (by rfl) w4.heap.size 27 ti (.slice none 0 0) 1 24 Try.underlying47 hi hz0 hz1 hz2 rfl (by decide) _ (0) ([]) (by rfl) (rTEV) _ (k) _ (by rfl) (Q1.out.below KTEV) (by unfold maxLen; omega) (by omega) (by first | omega | (simp; done) | (simp; omega)) ?_; intro v5 w5 hr5 hg5 hat5; have B5 : Below w4.heap.size w4 w5 := Below.grown KTEV hg5 (by first | omega | (simp; done) | (simp; omega)) (by intro q hq; cases hq; simp); have r5 : w5.ownsRow w4.heap.size 27 1 v5 k ((bs.take k).map slV) := (by simpa using hr5); have z5 := B5.size; have y5 : w4.heap.size + 3 ≤ w5.heap.size := (by have := hg5.size; simpa using this); have b5T := (show Bx ((((w4.alloc (.cells #[.int .i64 s.pId, .int .i64 t.pId, .int .i64 ds] 3)).alloc (.cells #[] 27)).alloc (.cells #[.slice (some ⟨w4.heap.size, 0, none⟩) 3 3] 27)).drew) (w4.heap.size) [.int .i64 s.pId, .int .i64 t.pId, .int .i64 ds] from ((bxT.alloc _).alloc _)).grown (row := some (w4.heap.size + 1)) hg5 (by simp); have hv5 : v5.ownBlock ≠ some (w4.heap.size) := own_ne hat5 (fun e => by have h9 := Option.some.inj (show some (w4.heap.size + 1) = some (w4.heap.size) from e); omega) (by first | omega | (simp; done) | (simp; omega)); have b5V := (show Bx ((((w4.alloc (.cells #[.int .i64 s.pId, .int .i64 t.pId, .int .i64 ds] 3)).alloc (.cells #[] 27)).alloc (.cells #[.slice (some ⟨w4.heap.size, 0, none⟩) 3 3] 27)).drew) (w4.heap.size + 2) [.slice (some ⟨w4.heap.size, 0, none⟩) 3 3] from bxV3).grown (row := some (w4.heap.size + 1)) hg5 (by simp); have b5Ta := b5T; have K5 := B5; clear hr5 hg5 hat5)
            | ((with_reducible refine step_at ((((w4.alloc (.cells #[.int .i64 s.pId, .int .i64 t.pId, .int .i64 ds] 3)).alloc (.cells #[.slice (some ⟨w4.heap.size, 0, none⟩) 3 3] 27)).alloc (.cells #[] 27)).drew) ?_); refine step_append_srcK ((((w4.alloc (.cells #[.int .i64 s.pId, .int .i64 t.pId, .int .i64 ds] 3)).alloc (.cells #[.slice (some ⟨w4.heap.size, 0, none⟩) 3 3] 27)).alloc (.cells #[] 27)).drew) (by rfl) _ _ _ (by rfl) w4.heap.size 27 ti (.slice none 0 0) 1 24 Try.underlying47 hi hz0 hz1 hz2 rfl (by decide) _ (0) ([]) (by rfl) (rTVE) _ (k) _ (by rfl) (Q1.out.below KTVE) (by unfold maxLen; omega) (by omega) (by first | omega | (simp; done) | (simp; omega)) ?_; intro v5 w5 hr5 hg5 hat5; have B5 : Below w4.heap.size w4 w5 := Below.grown KTVE hg5 (by first | omega | (simp; done) | (simp; omega)) (by intro q hq; cases hq; simp); have r5 : w5.ownsRow w4.heap.size 27 1 v5 k ((bs.take k).map slV) := (by simpa using hr5); have z5 := B5.size; have y5 : w4.heap.size + 3 ≤ w5.heap.size := (by have := hg5.size; simpa using this); have b5T := (show Bx ((((w4.alloc (.cells #[.int .i64 s.pId, .int .i64 t.pId, .int .i64 ds] 3)).alloc (.cells #[.slice (some ⟨w4.heap.size, 0, none⟩) 3 3] 27)).alloc (.cells #[] 27)).drew) (w4.heap.size) [.int .i64 s.pId, .int .i64 t.pId, .int .i64 ds] from ((bxT.alloc _).alloc _)).grown (row := some (w4.heap.size + 2)) hg5 (by simp); have hv5 : v5.ownBlock ≠ some (w4.heap.size) := own_ne hat5 (fun e => by have h9 := Option.some.inj (show some (w4.heap.size + 2) = some (w4.heap.size) from e); omega) (by first | omega | (simp; done) | (simp; omega)); have b5V := (show Bx ((((w4.alloc (.cells #[.int .i64 s.pId, .int .i64 t.pId, .int .i64 ds] 3)).alloc (.cells #[.slice (some ⟨w4.heap.size, 0, none⟩) 3 3] 27)).alloc (.cells #[] 27)).drew) (w4.heap.size + 1) [.slice (some ⟨w4.heap.size, 0, none⟩) 3 3] from (bxV.alloc _)).grown (row := some (w4.heap.size + 2)) hg5 (by simp); have b5Ta := b5T; have K5 := B5; clear hr5 hg5 hat5)
            | ((with_reducible refine step_at (((w4.alloc (.cells #[] 27)).alloc (.cells #[.int .i64 s.pId, .int .i64 t.pId, .int .i64 ds] 3)).drew) ?_); refine step_append_srcK (((w4.alloc (.cells #[] 27)).alloc (.cells #[.int .i64 s.pId, .int .i64 t.pId, .int .i64 ds] 3)).drew) (by rfl) _ _ _ (by rfl) w4.heap.size 27 ti (.slice none 0 0) 1 24 Try.underlying47 hi hz0 hz1 hz2 rfl (by decide) _ (0) ([]) (by rfl) (rET) _ (k) _ (by rfl) (Q1.out.below KET) (by unfold maxLen; omega) (by omega) (by first | omega | (simp; done) | (simp; omega)) ?_; intro v5 w5 hr5 hg5 hat5; have B5 : Below w4.heap.size w4 w5 := Below.grown KET hg5 (by first | omega | (simp; done) | (simp; omega)) (by intro q hq; cases hq; simp); have r5 : w5.ownsRow w4.heap.size 27 1 v5 k ((bs.take k).map slV) := (by simpa using hr5); have z5 := B5.size; have y5 : w4.heap.size + 2 ≤ w5.heap.size := (by have := hg5.size; simpa using this); have b5T := (show Bx (((w4.alloc (.cells #[] 27)).alloc (.cells #[.int .i64 s.pId, .int .i64 t.pId, .int .i64 ds] 3)).drew) (w4.heap.size + 1) [.int .i64 s.pId, .int .i64 t.pId, .int .i64 ds] from bxT1).grown (row := some (w4.heap.size)) hg5 (by simp); have hv5 : v5.ownBlock ≠ some (w4.heap.size + 1) := own_ne hat5 (fun e => by have h9 := Option.some.inj (show some (w4.heap.size) = some (w4.heap.size + 1) from e); omega) (by first | omega | (simp; done) | (simp; omega)); have K5 : Below w4.heap.size w4 (w5.alloc (.cells #[.slice (some ⟨w4.heap.size + 1, 0, none⟩) 3 3] 27)) := B5.alloc B5.size _; have b5V : Bx (w5.alloc (.cells #[.slice (some ⟨w4.heap.size + 1, 0, none⟩) 3 3] 27)) w5.heap.size [.slice (some ⟨w4.heap.size + 1, 0, none⟩) 3 3] := Bx.new w5 _ 27; have b5Ta := b5T.alloc (.cells #[.slice (some ⟨w4.heap.size + 1, 0, none⟩) 3 3] 27); clear hr5 hg5 hat5)
            | ((with_reducible refine step_at (((w4.alloc (.cells #[.int .i64 s.pId, .int .i64 t.pId, .int .i64 ds] 3)).alloc (.cells #[] 27)).drew) ?_); refine step_append_srcK (((w4.alloc (.cells #[.int .i64 s.pId, .int .i64 t.pId, .int .i64 ds] 3)).alloc (.cells #[] 27)).drew) (by rfl) _ _ _ (by rfl) w4.heap.size 27 ti (.slice none 0 0) 1 24 Try.underlying47 hi hz0 hz1 hz2 rfl (by decide) _ (0) ([]) (by rfl) (rTE) _ (k) _ (by rfl) (Q1.out.below KTE) (by unfold maxLen; omega) (by omega) (by first | omega | (simp; done) | (simp; omega)) ?_; intro v5 w5 hr5 hg5 hat5; have B5 : Below w4.heap.size w4 w5 := Below.grown KTE hg5 (by first | omega | (simp; done) | (simp; omega)) (by intro q hq; cases hq; simp); have r5 : w5.ownsRow w4.heap.size 27 1 v5 k ((bs.take k).map slV) := (by simpa using hr5); have z5 := B5.size; have y5 : w4.heap.size + 2 ≤ w5.heap.size := (by have := hg5.size; simpa using this); have b5T := (show Bx (((w4.alloc (.cells #[.int .i64 s.pId, .int .i64 t.pId, .int .i64 ds] 3)).alloc (.cells #[] 27)).drew) (w4.heap.size) [.int .i64 s.pId, .int .i64 t.pId, .int .i64 ds] from (bxT.alloc _)).grown (row := some (w4.heap.size + 1)) hg5 (by simp); have hv5 : v5.ownBlock ≠ some (w4.heap.size) := own_ne hat5 (fun e => by have h9 := Option.some.inj (show some (w4.heap.size + 1) = some (w4.heap.size) from e); omega) (by first | omega | (simp; done) | (simp; omega)); have K5 : Below w4.heap.size w4 (w5.alloc (.cells #[.slice (some ⟨w4.heap.size, 0, none⟩) 3 3] 27)) := B5.alloc B5.size _; have b5V : Bx (w5.alloc (.cells #[.slice (some ⟨w4.heap.size, 0, none⟩) 3 3] 27)) w5.heap.size [.slice (some ⟨w4.heap.size, 0, none⟩) 3 3] := Bx.new w5 _ 27; have b5Ta := b5T.alloc (.cells #[.slice (some ⟨w4.heap.size, 0, none⟩) 3 3] 27); clear hr5 hg5 hat5)
            | ((with_reducible refine step_at ((w4.alloc (.cells #[] 27)).drew) ?_); refine step_append_srcK ((w4.alloc (.cells #[] 27)).drew) (by rfl) _ _ _ (by rfl) w4.heap.size 27 ti (.slice none 0 0) 1 24 Try.underlying47 hi hz0 hz1 hz2 rfl (by decide) _ (0) ([]) (by rfl) (rE) _ (k) _ (by rfl) (Q1.out.below KE) (by unfold maxLen; omega) (by omega) (by first | omega | (simp; done) | (simp; omega)) ?_; intro v5 w5 hr5 hg5 hat5; have B5 : Below w4.heap.size w4 w5 := Below.grown KE hg5 (by first | omega | (simp; done) | (simp; omega)) (by intro q hq; cases hq; simp); have r5 : w5.ownsRow w4.heap.size 27 1 v5 k ((bs.take k).map slV) := (by simpa using hr5); have z5 := B5.size; have y5 : w4.heap.size + 1 ≤ w5.heap.size := (by have := hg5.size; simpa using this); have K5a : Below w4.heap.size w4 (w5.alloc (.cells #[.int .i64 s.pId, .int .i64 t.pId, .int .i64 ds] 3)) := B5.alloc B5.size _; have K5 : Below w4.heap.size w4 ((w5.alloc (.cells #[.int .i64 s.pId, .int .i64 t.pId, .int .i64 ds] 3)).alloc (.cells #[.slice (some ⟨w5.heap.size, 0, none⟩) 3 3] 27)) := K5a.alloc K5a.size _; have b5V : Bx ((w5.alloc (.cells #[.int .i64 s.pId, .int .i64 t.pId, .int .i64 ds] 3)).alloc (.cells #[.slice (some ⟨w5.heap.size, 0, none⟩) 3 3] 27)) (w5.heap.size + 1) [.slice (some ⟨w5.heap.size, 0, none⟩) 3 3] := Bx.new1 w5 _ _ 27; have b5Ta : Bx ((w5.alloc (.cells #[.int .i64 s.pId, .int .i64 t.pId, .int .i64 ds] 3)).alloc (.cells #[.slice (some ⟨w5.heap.size, 0, none⟩) 3 3] 27)) w5.heap.size [.int .i64 s.pId, .int .i64 t.pId, .int .i64 ds] := (Bx.new w5 [.int .i64 s.pId, .int .i64 t.pId, .int .i64 ds] 3).alloc _; have hv5 : v5.ownBlock ≠ some w5.heap.size := (by intro e; have := (r5.lt _ e).2; omega); clear hr5 hg5 hat5)
            | ((with_reducible refine step_at (w5) ?_); refine step_append_srcK (w5) (by rfl) _ _ _ (by rfl) w4.heap.size 27 ti (.slice none 0 0) 1 24 Try.underlying47 hi hz0 hz1 hz2 rfl (by decide) _ (k) ((bs.take k).map slV) (by rfl) (r5) _ (1) _ (by rfl) (srcK_box b5V (ONE.out _)) (by unfold maxLen; omega) (by omega) (z5) ?_; intro v6 w6 hr6 hg6 hat6; have B6 : Below w4.heap.size w4 w6 := Below.grown B5 hg6 (by first | omega | (simp; done) | (simp; omega)) (fun q hq => (r5.lt q hq).1); have r6 := hr6; have z6 := B6.size; have b6T := b5Ta.grown hg6 (by first | exact hv5 | exact fun e => hv5 e.symm); have hv6 : v6.ownBlock ≠ some (w4.heap.size + 1) := own_ne hat6 hv5 (by first | omega | (simp; done) | (simp; omega)); clear hr6 hg6 hat6)
            | ((with_reducible refine step_at (w5) ?_); refine step_append_srcK (w5) (by rfl) _ _ _ (by rfl) w4.heap.size 27 ti (.slice none 0 0) 1 24 Try.underlying47 hi hz0 hz1 hz2 rfl (by decide) _ (k) ((bs.take k).map slV) (by rfl) (r5) _ (1) _ (by rfl) (srcK_box b5V (ONE.out _)) (by unfold maxLen; omega) (by omega) (z5) ?_; intro v6 w6 hr6 hg6 hat6; have B6 : Below w4.heap.size w4 w6 := Below.grown B5 hg6 (by first | omega | (simp; done) | (simp; omega)) (fun q hq => (r5.lt q hq).1); have r6 := hr6; have z6 := B6.size; have b6T := b5Ta.grown hg6 (by first | exact hv5 | exact fun e => hv5 e.symm); have hv6 : v6.ownBlock ≠ some (w4.heap.size) := own_ne hat6 hv5 (by first | omega | (simp; done) | (simp; omega)); clear hr6 hg6 hat6)
            | ((with_reducible refine step_at (w5.alloc (.cells #[.slice (some ⟨w4.heap.size + 1, 0, none⟩) 3 3] 27)) ?_); refine step_append_srcK (w5.alloc (.cells #[.slice (some ⟨w4.heap.size + 1, 0, none⟩) 3 3] 27)) (by rfl) _ _ _ (by rfl) w4.heap.size 27 ti (.slice none 0 0) 1 24 Try.underlying47 hi hz0 hz1 hz2 rfl (by decide) _ (k) ((bs.take k).map slV) (by rfl) (r5.alloc _) _ (1) _ (by rfl) (srcK_box b5V (ONE.out _)) (by unfold maxLen; omega) (by omega) (by first | omega | (simp; done) | (simp; omega)) ?_; intro v6 w6 hr6 hg6 hat6; have B6 : Below w4.heap.size w4 w6 := Below.grown K5 hg6 (by first | omega | (simp; done) | (simp; omega)) (fun q hq => (r5.lt q hq).1); have r6 := hr6; have z6 := B6.size; have b6T := b5Ta.grown hg6 (by first | exact hv5 | exact fun e => hv5 e.symm); have hv6 : v6.ownBlock ≠ some (w4.heap.size + 1) := own_ne hat6 hv5 (by first | omega | (simp; done) | (simp; omega)); clear hr6 hg6 hat6)
            | ((with_reducible refine step_at (w5.alloc (.cells #[.slice (some ⟨w4.heap.size, 0, none⟩) 3 3] 27)) ?_); refine step_append_srcK (w5.alloc (.cells #[.slice (some ⟨w4.heap.size, 0, none⟩) 3 3] 27)) (by rfl) _ _ _ (by rfl) w4.heap.size 27 ti (.slice none 0 0) 1 24 Try.underlying47 hi hz0 hz1 hz2 rfl (by decide) _ (k) ((bs.take k).map slV) (by rfl) (r5.alloc _) _ (1) _ (by rfl) (srcK_box b5V (ONE.out _)) (by unfold maxLen; omega) (by omega) (by first | omega | (simp; done) | (simp; omega)) ?_; intro v6 w6 hr6 hg6 hat6; have B6 : Below w4.heap.size w4 w6 := Below.grown K5 hg6 (by first | omega | (simp; done) | (simp; omega)) (fun q hq => (r5.lt q hq).1); have r6 := hr6; have z6 := B6.size; have b6T := b5Ta.grown hg6 (by first | exact hv5 | exact fun e => hv5 e.symm); have hv6 : v6.ownBlock ≠ some (w4.heap.size) := own_ne hat6 hv5 (by first | omega | (simp; done) | (simp; omega)); clear hr6 hg6 hat6)
            | ((with_reducible refine step_at ((w5.alloc (.cells #[.int .i64 s.pId, .int .i64 t.pId, .int .i64 ds] 3)).alloc (.cells #[.slice (some ⟨w5.heap.size, 0, none⟩) 3 3] 27)) ?_); refine step_append_srcK ((w5.alloc (.cells #[.int .i64 s.pId, .int .i64 t.pId, .int .i64 ds] 3)).alloc (.cells #[.slice (some ⟨w5.heap.size, 0, none⟩) 3 3] 27)) (by rfl) _ _ _ (by rfl) w4.heap.size 27 ti (.slice none 0 0) 1 24 Try.underlying47 hi hz0 hz1 hz2 rfl (by decide) _ (k) ((bs.take k).map slV) (by rfl) ((r5.alloc _).alloc _) _ (1) _ (by rfl) (srcK_box b5V (ONE.out _)) (by unfold maxLen; omega) (by omega) (by first | omega | (simp; done) | (simp; omega)) ?_; intro v6 w6 hr6 hg6 hat6; have B6 : Below w4.heap.size w4 w6 := Below.grown K5 hg6 (by first | omega | (simp; done) | (simp; omega)) (fun q hq => (r5.lt q hq).1); have r6 := hr6; have z6 := B6.size; have b6T := b5Ta.grown hg6 (by first | exact hv5 | exact fun e => hv5 e.symm); have hv6 : v6.ownBlock ≠ some (w5.heap.size) := own_ne hat6 hv5 (by first | omega | (simp; done) | (simp; omega)); clear hr6 hg6 hat6)
            | ((with_reducible refine step_at (w6) ?_); refine step_append_srcK (w6) (by rfl) _ _ _ (by rfl) w4.heap.size 27 ti (.slice none 0 0) 1 24 Try.underlying47 hi hz0 hz1 hz2 rfl (by decide) _ (k + 1) (_) (by rfl) (r6) _ (n - k) _ (by rfl) (Q2.out.below B6) (by unfold maxLen; omega) (by omega) (z6) ?_; intro v7 w7 hr7 hg7 hat7; have B7 : Below w4.heap.size w4 w7 := Below.grown B6 hg7 (by first | omega | (simp; done) | (simp; omega)) (fun q hq => (r6.lt q hq).1); have r7 := hr7; have z7 := B7.size; have b7T := b6T.grown hg7 (by first | exact hv6 | exact fun e => hv6 e.symm); have hv7 := (show _ from hat7); clear hr7 hg7))
        all_goals
          have h71 : k + 1 + (n - k) = n + 1 := by omega
          rw [h71] at r7
          obtain ⟨g7, cap7, rfl, hc7, hm7, hL7, hg7⟩ := row_some r7 (by omega)
          have RP7 := rowsP_ins HRP4.out (by rw [HLN.out]; exact hk) b7T rfl (by rw [HDS.out]) hsz4w (by first | exact Nat.le_refl _ | omega) B7 (fun e => own_ne hat7 hv6 (by have := b6T.1.1; omega) (congrArg some e)) hL7
          have r8 := rows_eq (Go.Joins.ownsRow_le r7 (base' := w.heap.size) (by omega))
          have C7 : Below w.heap.size w w7 := hbl4.trans (B7.mono (by omega))
          clear r7 h71
          go_wp2
          go_roundw
          case rel => exact ⟨q + 1, m + 1, n + 1, g7, cap7, _, _, by have := HQM.out; omega, by omega, by go_num, rfl, HSF2, r8, Lib.hid RP7, hc7, hm7, C7⟩
          case measure => simp [intOf]; omega
end Go.Proofs.Ytjiaejempfhheaa
