/- Picks: pairs, by the program. -/
import Derived.Test.YtklilfbokpljkaaPqD2
namespace Go.Proofs.Ytklilfbokpljkaa
open Go.ChangeShapes Go.WideShapes Go.ChangeAt Go.RowKit Go.ChangeMaps Go.Sort Go.Shelf
set_option linter.unusedSimpArgs false
set_option linter.unusedVariables false

theorem cell_same2 {w w' : World} {g : Nat} (h : w'.heap[g]? = w.heap[g]?) (o : Nat) : w'.cell? ⟨g, o, none⟩ = w.cell? ⟨g, o, none⟩ := by
  unfold World.cell?; simp only [h]
theorem sso_empty (w : World) {L : Nat} (h : L ≤ w.heap.size) : SSO (w.alloc (.cells #[] 43)) L (w.alloc (.cells #[] 43)).heap.size (.slice (some ⟨w.heap.size, 0, none⟩) 0 0) [] := by
  have hr := row_empty w (base := L) 43 1 h
  exact Rows2.sso (Rows2.nil _ _ _) (hr.lt w.heap.size rfl) (Own.of_row (xs := ([] : List Value)) (by simpa using hr))
set_option maxRecDepth 100000 in
set_option maxHeartbeats 8000000 in
theorem implPr (xs : List GPick) (v : Value) (st : Int) (w : World) (B : Nat) (h : PickL w B v xs) (hB : B ≤ w.heap.size) (hn : szsPick xs ≤ 1048576) (hw : ∀ s ∈ xs, wfPick s) (_ : I64 st) :
    Calls Try.prog 84 #[v, .int .i64 st] w fun e w' => ∃ v', e = .returned (.tuple #[v', .bool (okPr xs st)]) ∧ SSO w' w.heap.size w'.heap.size v' (resPr xs st) ∧ Below w.heap.size w w' := by
  have hl := Nat.le_trans (szsPick_len xs) hn
  generalize hok : okPr xs st = ok
  generalize hres : resPr xs st = res
  cases hg : goodP xs with
  | false =>
    have C := Lib.hid (implGoodP xs v false w B h hB hl hg)
    have e1 : ok = false := by rw [← hok]; unfold okPr; rw [hg]; rfl
    subst e1
    have e2 : res = [] := by rw [← hres]; exact pr_no hok
    subst e2
    clear hg hok hres
    obtain ⟨ao, cap, rfl⟩ := h.form
    go_enter Try.func84, Try.ntmps84
    go_wp2_with fail
    refine C.out.mono ?_
    rintro e w1 ⟨rfl, hb⟩
    go_wp2
    go_ret2
    exact ⟨_, rfl, sso_empty w1 hb.size, hb.alloc hb.size _⟩
  | true =>
  have C := Lib.hid (implGoodP xs v true w B h hB hl hg)
  cases hin : inB st 1 99 with
  | false =>
    have HIN := Lib.hid hin
    have e1 : ok = false := by rw [← hok]; unfold okPr; rw [hin, Bool.and_false]
    subst e1
    have e2 : res = [] := by rw [← hres]; exact pr_no hok
    subst e2
    clear hg hok hres hin
    obtain ⟨ao, cap, rfl⟩ := h.form
    go_enter Try.func84, Try.ntmps84
    go_wp2_with fail
    refine C.out.mono ?_
    rintro e w1 ⟨rfl, hb⟩
    go_wp2_with fail
    refine (implId _ false _ HIN.out).mono ?_
    rintro e w2 ⟨rfl, rfl⟩
    go_wp2
    go_ret2
    exact ⟨_, rfl, sso_empty w1 hb.size, hb.alloc hb.size _⟩
  | true =>
  have HIN := Lib.hid hin
  have e1 : ok = true := by rw [← hok]; unfold okPr; rw [hg, hin]; rfl
  subst e1
  have HRES : Hid (res = pairsQ xs st (selL xs st 0).length) := Lib.hid (by rw [← hres, pairsQ_all]; exact pr_yes hok)
  have HOK := Lib.hid (goodP_yes hg)
  have hl12 := (goodP_yes hg).1
  have HL := Lib.hid h
  obtain ⟨ao, cap, rfl⟩ := h.form
  clear hg hok hres hin h
  obtain ⟨ti, hi, hz0, hz1, hz2⟩ := info_parts infoInts3
  have HS0 := Lib.hid (show ∀ p ∈ selL xs st 0, oneP p from fun p hp => okP_mem HOK.out (selL_mem hp))
  have HS1 := Lib.hid (show ∀ p ∈ selL xs st 1, oneP p from fun p hp => okP_mem HOK.out (selL_mem hp))
  have hs0l : (selL xs st 0).length ≤ 12 := Nat.le_trans (selL_len xs st 0) hl12
  have hs1l : (selL xs st 1).length ≤ 12 := Nat.le_trans (selL_len xs st 1) hl12
  generalize hs0 : selL xs st 0 = s0 at *
  generalize hs1 : selL xs st 1 = s1 at *
  have HE0 := Lib.hid hs0
  have HE1 := Lib.hid hs1
  clear hs0 hs1
  go_enter Try.func84, Try.ntmps84
  go_wp2_with fail
  refine C.out.mono ?_
  rintro e w1 ⟨rfl, hb⟩
  go_wp2_with fail
  refine (implId _ true _ HIN.out).mono ?_
  rintro e w2 ⟨rfl, rfl⟩
  have z1 := hb.size
  have CA : Below w.heap.size w (w1.alloc (.cells #[] 43)) := hb.alloc z1 _
  have hrA := row_empty w1 (base := w.heap.size) 43 1 z1
  have HC0 := Lib.hid (implCurAt xs (.slice ao xs.length cap) st 0 (w1.alloc (.cells #[] 43)) B (HL.out.below (CA.mono hB)) (Nat.le_trans hB CA.size) hl)
  rw [HE0.out] at HC0
  go_wp2_with fail
  refine HC0.out.mono ?_
  rintro e w3 ⟨v3, rfl, ho3, hb3⟩
  have C3 := CA.trans (hb3.mono CA.size)
  have hr3 := row_below hrA hb3
  have z3 := hb3.size
  have z4 : w1.heap.size + 1 ≤ w3.heap.size := by simpa using z3
  obtain ⟨ao3, cap3, e3, hcap3, hmax3, hnn3, hc3⟩ := ho3
  subst e3
  unfold maxLen at hmax3
  have HC3 := Lib.hid hc3
  clear hc3 hnn3 CA hrA HC0 hb3 hb C
  go_wp2
  go_loopw [6, 25] (fun o i wr => ∃ (k n g cap : Nat) (ll : List (List Int)) (bs : List Nat), k ≤ s0.length ∧ i = .int .i64 k ∧ o = .slice (some ⟨g, 0, none⟩) n cap ∧ Hid (ll = pairsQ xs st k) ∧ Hid (ll.length = n) ∧ wr.ownsRow w.heap.size 43 1 (.slice (some ⟨g, 0, none⟩) n cap) n (bs.map slV2) ∧ Hid (Rows2 wr w.heap.size g ll bs) ∧ Hid (0 < s0.length → ∀ b off, ao3 = some ⟨b, off, none⟩ → g ≠ b ∧ wr.heap[b]? = w3.heap[b]?) ∧ w3.heap.size ≤ wr.heap.size ∧ Below w.heap.size w wr)
    (fun _ i _ => s0.length - (intOf i).toNat)
  case atStart =>
    refine ⟨0, 0, _, 0, [], [], Nat.zero_le _, rfl, rfl, Lib.hid (pairsQ_zero xs st).symm, Lib.hid rfl, hr3, Lib.hid (Rows2.nil _ _ _), Lib.hid (fun hpos b off e => ⟨fun e2 => ?_, rfl⟩), Nat.le_refl _, C3⟩
    obtain ⟨p, hp⟩ := get_of_lt hpos
    obtain ⟨b', off', e3, hL3, -⟩ := HC3.out 0 p hp
    rw [e] at e3
    cases e3
    have : (w1.alloc (.cells #[] 43)).heap.size = w1.heap.size + 1 := by simp
    omega
  case round =>
    obtain ⟨k, n, g, ocap, ll, bs, hk, rfl, rfl, HO, HN, hrow, HRP, HG, hzr, hbl⟩ := hrel
    have hsz := hbl.size
    by_cases hlt : k < s0.length
    case neg =>
      obtain rfl : k = s0.length := by omega
      have HX : Hid (ll = res) := Lib.hid (by rw [HO.out, HRES.out])
      have HSS := Lib.hid (Rows2.sso HRP.out (hrow.lt g rfl) (Own.of_row (by simpa using hrow)))
      go_wp2
      go_ret2
      exact ⟨_, rfl, by rw [← HX.out]; exact HSS.out, hbl⟩
    obtain ⟨p, hp⟩ := get_of_lt hlt
    obtain ⟨b1, off1, e1, hL1, hB1, hz1', hcell, hfz⟩ := HC3.out k p hp
    subst e1
    obtain ⟨hgb, hkb⟩ := HG.out (by omega) b1 off1 rfl
    have c0 : wr.cell? ⟨b1, off1 + k * 7, none⟩ = some (.int .i64 p.pId) := (cell_same2 hkb _).trans (hcell 0 _ rfl)
    have c1 : wr.cell? ⟨b1, off1 + k * 7 + 1, none⟩ = some (.int .i64 p.pStation) := (cell_same2 hkb _).trans (hcell 1 _ rfl)
    have c2 : wr.cell? ⟨b1, off1 + k * 7 + 2, none⟩ = some (.int .i64 p.pWave) := (cell_same2 hkb _).trans (hcell 2 _ rfl)
    have c3 : wr.cell? ⟨b1, off1 + k * 7 + 3, none⟩ = some (.int .i64 p.pTick) := (cell_same2 hkb _).trans (hcell 3 _ rfl)
    have c4 : wr.cell? ⟨b1, off1 + k * 7 + 4, none⟩ = some (.int .i64 p.pError) := (cell_same2 hkb _).trans (hcell 4 _ rfl)
    have c5 : wr.cell? ⟨b1, off1 + k * 7 + 5, none⟩ = some (.int .i64 p.pBy) := (cell_same2 hkb _).trans (hcell 5 _ rfl)
    have c6 : wr.cell? ⟨b1, off1 + k * 7 + 6, none⟩ = some (.int .i64 p.pAfter) := (cell_same2 hkb _).trans (hcell 6 _ rfl)
    have HP := Lib.hid hp
    have hpo := HS0.out p (List.mem_of_getElem? hp)
    have hk1 : (k : Int) < (s0.length : Int) := by omega
    have hk0 : (0 : Int) ≤ (k : Int) := by omega
    clear hp hcell hfz
    have N1 := below_cell (w := wr) (Nat.le_refl _) (.cells #[.int .i64 p.pId, .int .i64 p.pStation, .int .i64 p.pWave, .int .i64 p.pTick, .int .i64 p.pError, .int .i64 p.pBy, .int .i64 p.pAfter] 76)
    have CA2 : Below w.heap.size w (wr.alloc (.cells #[.int .i64 p.pId, .int .i64 p.pStation, .int .i64 p.pWave, .int .i64 p.pTick, .int .i64 p.pError, .int .i64 p.pBy, .int .i64 p.pAfter] 76)) := hbl.trans (N1.mono hsz)
    have bp0 : Bx (wr.alloc (.cells #[.int .i64 p.pId, .int .i64 p.pStation, .int .i64 p.pWave, .int .i64 p.pTick, .int .i64 p.pError, .int .i64 p.pBy, .int .i64 p.pAfter] 76)) wr.heap.size (encPick p) := Bx.new wr (encPick p) 76
    have HC1 := Lib.hid (implCurAt xs (.slice ao xs.length cap) st 1 (wr.alloc (.cells #[.int .i64 p.pId, .int .i64 p.pStation, .int .i64 p.pWave, .int .i64 p.pTick, .int .i64 p.pError, .int .i64 p.pBy, .int .i64 p.pAfter] 76)) B (HL.out.below (CA2.mono hB)) (Nat.le_trans hB CA2.size) hl)
    rw [HE1.out] at HC1
    go_wp2_with fail
    refine HC1.out.mono ?_
    rintro e w5 ⟨v5, rfl, ho5, hb5⟩
    have M5 : Below wr.heap.size wr w5 := N1.trans (hb5.mono N1.size)
    have z5 := M5.size
    have z5' : wr.heap.size + 1 ≤ w5.heap.size := by have := hb5.size; simpa using this
    have bp5 := bp0.below hb5
    have hgw := (hrow.lt g rfl).2
    have hrow5 := row_below hrow M5
    have HRP5 := Lib.hid (HRP.out.below M5)
    have hbl5 := hbl.trans (M5.mono hsz)
    have HK1 : Hid (g ≠ b1 ∧ w5.heap[b1]? = w3.heap[b1]?) := Lib.hid ⟨hgb, (M5.block b1 (by omega)).trans hkb⟩
    obtain ⟨ao5, cap5, e5, hcap5, hmax5, hnn5, hc5⟩ := ho5
    subst e5
    unfold maxLen at hmax5
    have HC5 := Lib.hid hc5
    clear hc5 hnn5 CA2 HC1 hb5 hrow HRP hbl bp0 N1 M5 hgb hkb HG
    generalize hbp : wr.heap.size = bp at *
    go_wp2
    go_loopw [6, 33] (fun o i wr' => ∃ (q n g cap : Nat) (ll : List (List Int)) (bs : List Nat), q ≤ s1.length ∧ i = .int .i64 q ∧ o = .slice (some ⟨g, 0, none⟩) n cap ∧ Hid (ll = pairsQ xs st k ++ rowQ xs st p q) ∧ Hid (ll.length = n) ∧ wr'.ownsRow w.heap.size 43 1 (.slice (some ⟨g, 0, none⟩) n cap) n (bs.map slV2) ∧ Hid (Rows2 wr' w.heap.size g ll bs) ∧ Hid (g ≠ b1 ∧ wr'.heap[b1]? = w3.heap[b1]?) ∧ Hid (0 < s1.length → ∀ b off, ao5 = some ⟨b, off, none⟩ → g ≠ b ∧ wr'.heap[b]? = w5.heap[b]?) ∧ Hid (g ≠ bp ∧ Bx wr' bp (encPick p)) ∧ w5.heap.size ≤ wr'.heap.size ∧ Below w.heap.size w wr')
      (fun _ i _ => s1.length - (intOf i).toNat)
    case atStart =>
      refine ⟨0, n, g, ocap, ll, bs, Nat.zero_le _, rfl, rfl, Lib.hid (by rw [rowQ_zero, List.append_nil]; exact HO.out), HN, hrow5, HRP5, HK1, Lib.hid (fun hpos b off e => ⟨fun e2 => ?_, rfl⟩), Lib.hid ⟨by omega, bp5⟩, Nat.le_refl _, hbl5⟩
      obtain ⟨t, ht⟩ := get_of_lt hpos
      obtain ⟨b', off', e3, hL3, -⟩ := HC5.out 0 t ht
      rw [e] at e3
      cases e3
      have : (wr.alloc (.cells #[.int .i64 p.pId, .int .i64 p.pStation, .int .i64 p.pWave, .int .i64 p.pTick, .int .i64 p.pError, .int .i64 p.pBy, .int .i64 p.pAfter] 76)).heap.size = wr.heap.size + 1 := by simp
      omega
    case round =>
      clear hrow5 HRP5 HK1 HO HN bp5 hbl5 hsz
      obtain ⟨q, n, g, ocap, ll, bs, hq, rfl, rfl, HO, HN, hrow, HRP, HK1, HK5, HBP, hzr5, hbl⟩ := hrel
      have hsz := hbl.size
      by_cases hlt2 : q < s1.length
      case neg =>
        obtain rfl : q = s1.length := by omega
        have HO2 : Hid (ll = pairsQ xs st (k + 1)) := Lib.hid (by
          rw [HO.out, pairsQ_succ (p := p) (by rw [HE0.out]; exact HP.out), HE1.out])
        have HG2 : Hid (0 < s0.length → ∀ b off, some (⟨b1, off1, none⟩ : Addr) = some ⟨b, off, none⟩ → g ≠ b ∧ wr.heap[b]? = w3.heap[b]?) := Lib.hid (fun _ b off e => by cases e; exact HK1.out)
        go_wp2
        go_roundw
        case rel => exact ⟨k + 1, n, g, ocap, ll, bs, by omega, by go_num, rfl, HO2, HN, hrow, HRP, HG2, by omega, hbl⟩
        case measure => simp [intOf]; omega
      obtain ⟨t, ht⟩ := get_of_lt hlt2
      obtain ⟨b2, off2, e2, hL2, hB2, hz2', hcell, hfz⟩ := HC5.out q t ht
      subst e2
      obtain ⟨hgb2, hkb2⟩ := HK5.out (by omega) b2 off2 rfl
      have d0 : wr.cell? ⟨b2, off2 + q * 7, none⟩ = some (.int .i64 t.pId) := (cell_same2 hkb2 _).trans (hcell 0 _ rfl)
      have d1 : wr.cell? ⟨b2, off2 + q * 7 + 1, none⟩ = some (.int .i64 t.pStation) := (cell_same2 hkb2 _).trans (hcell 1 _ rfl)
      have d2 : wr.cell? ⟨b2, off2 + q * 7 + 2, none⟩ = some (.int .i64 t.pWave) := (cell_same2 hkb2 _).trans (hcell 2 _ rfl)
      have d3 : wr.cell? ⟨b2, off2 + q * 7 + 3, none⟩ = some (.int .i64 t.pTick) := (cell_same2 hkb2 _).trans (hcell 3 _ rfl)
      have d4 : wr.cell? ⟨b2, off2 + q * 7 + 4, none⟩ = some (.int .i64 t.pError) := (cell_same2 hkb2 _).trans (hcell 4 _ rfl)
      have d5 : wr.cell? ⟨b2, off2 + q * 7 + 5, none⟩ = some (.int .i64 t.pBy) := (cell_same2 hkb2 _).trans (hcell 5 _ rfl)
      have d6 : wr.cell? ⟨b2, off2 + q * 7 + 6, none⟩ = some (.int .i64 t.pAfter) := (cell_same2 hkb2 _).trans (hcell 6 _ rfl)
      have HT := Lib.hid ht
      have hto := HS1.out t (List.mem_of_getElem? ht)
      obtain ⟨hgbp, hbxp⟩ := HBP.out
      obtain ⟨hgb1, hkb1⟩ := HK1.out
      have hq1 : (q : Int) < (s1.length : Int) := by omega
      have hq0 : (0 : Int) ≤ (q : Int) := by omega
      unfold oneP at hpo hto
      have w5' : IntKind.i64.wrap (p.pTick + p.pError) = p.pTick + p.pError := IntWalk.i64_in _ (by omega)
      have w6' : IntKind.i64.wrap (t.pTick - t.pError) = t.pTick - t.pError := IntWalk.i64_in _ (by omega)
      clear ht hcell hfz hpo hto
      have N1 := below_cell (w := wr) (Nat.le_refl _) (.cells #[.int .i64 t.pId, .int .i64 t.pStation, .int .i64 t.pWave, .int .i64 t.pTick, .int .i64 t.pError, .int .i64 t.pBy, .int .i64 t.pAfter] 76)
      have bt : Bx (wr.alloc (.cells #[.int .i64 t.pId, .int .i64 t.pStation, .int .i64 t.pWave, .int .i64 t.pTick, .int .i64 t.pError, .int .i64 t.pBy, .int .i64 t.pAfter] 76)) wr.heap.size (encPick t) := Bx.new wr (encPick t) 76
      have bp6 := hbxp.alloc (.cells #[.int .i64 t.pId, .int .i64 t.pStation, .int .i64 t.pWave, .int .i64 t.pTick, .int .i64 t.pError, .int .i64 t.pBy, .int .i64 t.pAfter] 76)
      have hgw := (hrow.lt g rfl)
      have hrowq := row_below hrow N1
      have HRPq := Lib.hid (HRP.out.below N1)
      have hblq : Below w.heap.size w (wr.alloc (.cells #[.int .i64 t.pId, .int .i64 t.pStation, .int .i64 t.pWave, .int .i64 t.pTick, .int .i64 t.pError, .int .i64 t.pBy, .int .i64 t.pAfter] 76)) := hbl.trans (N1.mono hsz)
      have zw6 : wr.heap.size + 1 ≤ (wr.alloc (.cells #[.int .i64 t.pId, .int .i64 t.pStation, .int .i64 t.pWave, .int .i64 t.pTick, .int .i64 t.pError, .int .i64 t.pBy, .int .i64 t.pAfter] 76)).heap.size := by simp
      have KB1 : (wr.alloc (.cells #[.int .i64 t.pId, .int .i64 t.pStation, .int .i64 t.pWave, .int .i64 t.pTick, .int .i64 t.pError, .int .i64 t.pBy, .int .i64 t.pAfter] 76)).heap[b1]? = w3.heap[b1]? := (N1.block b1 (by omega)).trans hkb1
      have KB2 : (wr.alloc (.cells #[.int .i64 t.pId, .int .i64 t.pStation, .int .i64 t.pWave, .int .i64 t.pTick, .int .i64 t.pError, .int .i64 t.pBy, .int .i64 t.pAfter] 76)).heap[b2]? = w5.heap[b2]? := (N1.block b2 (by omega)).trans hkb2
      have e0 : (wr.alloc (.cells #[.int .i64 t.pId, .int .i64 t.pStation, .int .i64 t.pWave, .int .i64 t.pTick, .int .i64 t.pError, .int .i64 t.pBy, .int .i64 t.pAfter] 76)).cell? ⟨bp, 0, none⟩ = some (.int .i64 p.pId) := bp6.2 0 _ rfl
      have e1 : (wr.alloc (.cells #[.int .i64 t.pId, .int .i64 t.pStation, .int .i64 t.pWave, .int .i64 t.pTick, .int .i64 t.pError, .int .i64 t.pBy, .int .i64 t.pAfter] 76)).cell? ⟨bp, 1, none⟩ = some (.int .i64 p.pStation) := bp6.2 1 _ rfl
      have e2 : (wr.alloc (.cells #[.int .i64 t.pId, .int .i64 t.pStation, .int .i64 t.pWave, .int .i64 t.pTick, .int .i64 t.pError, .int .i64 t.pBy, .int .i64 t.pAfter] 76)).cell? ⟨bp, 2, none⟩ = some (.int .i64 p.pWave) := bp6.2 2 _ rfl
      have e3 : (wr.alloc (.cells #[.int .i64 t.pId, .int .i64 t.pStation, .int .i64 t.pWave, .int .i64 t.pTick, .int .i64 t.pError, .int .i64 t.pBy, .int .i64 t.pAfter] 76)).cell? ⟨bp, 3, none⟩ = some (.int .i64 p.pTick) := bp6.2 3 _ rfl
      have e4 : (wr.alloc (.cells #[.int .i64 t.pId, .int .i64 t.pStation, .int .i64 t.pWave, .int .i64 t.pTick, .int .i64 t.pError, .int .i64 t.pBy, .int .i64 t.pAfter] 76)).cell? ⟨bp, 4, none⟩ = some (.int .i64 p.pError) := bp6.2 4 _ rfl
      have e5 : (wr.alloc (.cells #[.int .i64 t.pId, .int .i64 t.pStation, .int .i64 t.pWave, .int .i64 t.pTick, .int .i64 t.pError, .int .i64 t.pBy, .int .i64 t.pAfter] 76)).cell? ⟨bp, 5, none⟩ = some (.int .i64 p.pBy) := bp6.2 5 _ rfl
      have e6 : (wr.alloc (.cells #[.int .i64 t.pId, .int .i64 t.pStation, .int .i64 t.pWave, .int .i64 t.pTick, .int .i64 t.pError, .int .i64 t.pBy, .int .i64 t.pAfter] 76)).cell? ⟨bp, 6, none⟩ = some (.int .i64 p.pAfter) := bp6.2 6 _ rfl
      have f0 : (wr.alloc (.cells #[.int .i64 t.pId, .int .i64 t.pStation, .int .i64 t.pWave, .int .i64 t.pTick, .int .i64 t.pError, .int .i64 t.pBy, .int .i64 t.pAfter] 76)).cell? ⟨wr.heap.size, 0, none⟩ = some (.int .i64 t.pId) := bt.2 0 _ rfl
      have f1 : (wr.alloc (.cells #[.int .i64 t.pId, .int .i64 t.pStation, .int .i64 t.pWave, .int .i64 t.pTick, .int .i64 t.pError, .int .i64 t.pBy, .int .i64 t.pAfter] 76)).cell? ⟨wr.heap.size, 1, none⟩ = some (.int .i64 t.pStation) := bt.2 1 _ rfl
      have f2 : (wr.alloc (.cells #[.int .i64 t.pId, .int .i64 t.pStation, .int .i64 t.pWave, .int .i64 t.pTick, .int .i64 t.pError, .int .i64 t.pBy, .int .i64 t.pAfter] 76)).cell? ⟨wr.heap.size, 2, none⟩ = some (.int .i64 t.pWave) := bt.2 2 _ rfl
      have f3 : (wr.alloc (.cells #[.int .i64 t.pId, .int .i64 t.pStation, .int .i64 t.pWave, .int .i64 t.pTick, .int .i64 t.pError, .int .i64 t.pBy, .int .i64 t.pAfter] 76)).cell? ⟨wr.heap.size, 3, none⟩ = some (.int .i64 t.pTick) := bt.2 3 _ rfl
      have f4 : (wr.alloc (.cells #[.int .i64 t.pId, .int .i64 t.pStation, .int .i64 t.pWave, .int .i64 t.pTick, .int .i64 t.pError, .int .i64 t.pBy, .int .i64 t.pAfter] 76)).cell? ⟨wr.heap.size, 4, none⟩ = some (.int .i64 t.pError) := bt.2 4 _ rfl
      have f5 : (wr.alloc (.cells #[.int .i64 t.pId, .int .i64 t.pStation, .int .i64 t.pWave, .int .i64 t.pTick, .int .i64 t.pError, .int .i64 t.pBy, .int .i64 t.pAfter] 76)).cell? ⟨wr.heap.size, 5, none⟩ = some (.int .i64 t.pBy) := bt.2 5 _ rfl
      have f6 : (wr.alloc (.cells #[.int .i64 t.pId, .int .i64 t.pStation, .int .i64 t.pWave, .int .i64 t.pTick, .int .i64 t.pError, .int .i64 t.pBy, .int .i64 t.pAfter] 76)).cell? ⟨wr.heap.size, 6, none⟩ = some (.int .i64 t.pAfter) := bt.2 6 _ rfl
      have KK1 := Lib.hid KB1
      have KK2 := Lib.hid KB2
      have hbpl : bp < (wr.alloc (.cells #[.int .i64 t.pId, .int .i64 t.pStation, .int .i64 t.pWave, .int .i64 t.pTick, .int .i64 t.pError, .int .i64 t.pBy, .int .i64 t.pAfter] 76)).heap.size := bp6.1.1
      have BP6 := Lib.hid bp6
      clear hrow HRP hbl bt hkb1 hkb2 hbxp N1 KB1 KB2 bp6
      by_cases a7 : p.pTick + p.pError < t.pTick - t.pError
      case neg =>
        have e7 : decide (p.pTick + p.pError < t.pTick - t.pError) = false := decide_eq_false a7
        have HO2 : Hid (ll = pairsQ xs st k ++ rowQ xs st p (q + 1)) := Lib.hid (by rw [HO.out, rowQ_no (s := t) (by rw [HE1.out]; exact HT.out) e7])
        go_wp2
        go_roundw
        case rel => exact ⟨q + 1, n, g, ocap, ll, bs, by omega, by go_num, rfl, HO2, HN, hrowq, HRPq, Lib.hid ⟨hgb1, KK1.out⟩, Lib.hid (fun _ b off e => by cases e; exact ⟨hgb2, KK2.out⟩), Lib.hid ⟨hgbp, BP6.out⟩, by omega, hblq⟩
        case measure => simp [intOf]; omega
      have e7 : decide (p.pTick + p.pError < t.pTick - t.pError) = true := decide_eq_true a7
      have HMY := Lib.hid (rowQ_yes (p := p) (s := t) (by rw [HE1.out]; exact HT.out) e7)
      have hn156 : n ≤ 288 := by
        have h1 := pairsQ_len xs st k
        have h2 := rowQ_len xs st p q
        have h3 : k * xs.length ≤ 12 * 12 := Nat.mul_le_mul (by omega) hl12
        rw [← HN.out, HO.out, List.length_append]
        omega
      have hgl := hrowq.lt g rfl
      generalize hw6 : wr.alloc (.cells #[.int .i64 t.pId, .int .i64 t.pStation, .int .i64 t.pWave, .int .i64 t.pTick, .int .i64 t.pError, .int .i64 t.pBy, .int .i64 t.pAfter] 76) = w6 at *
      go_wp2_with (at_builtin; refine wpList_append_srcK _ rfl _ _ 69 rfl (w.heap.size) 43 ti (.slice none 0 0) 1 24 Try.underlying69 hi hz0 hz1 hz2 rfl (by decide) _ n (bs.map slV2) rfl ((hrowq.alloc _).alloc _) _ 1 [.slice (some ⟨w6.heap.size, 0, none⟩) 2 2] rfl (srcK_box (Bx.new1 w6 (.cells #[.int .i64 p.pId, .int .i64 t.pId] 3) [.slice (some ⟨w6.heap.size, 0, none⟩) 2 2] 43) (by intro u hu; simp only [List.mem_singleton] at hu; subst hu; rfl)) (by unfold maxLen; omega) (by omega) (by first | omega | (simp; done) | (simp; omega)) ?_; intro v7 w7 hr7 hg7 hat7)
      have bxT : Bx ((w6.alloc (.cells #[.int .i64 p.pId, .int .i64 t.pId] 3)).alloc (.cells #[.slice (some ⟨w6.heap.size, 0, none⟩) 2 2] 43)) w6.heap.size [.int .i64 p.pId, .int .i64 t.pId] := (Bx.new w6 [.int .i64 p.pId, .int .i64 t.pId] 3).alloc _
      have MA : Below w6.heap.size w6 ((w6.alloc (.cells #[.int .i64 p.pId, .int .i64 t.pId] 3)).alloc (.cells #[.slice (some ⟨w6.heap.size, 0, none⟩) 2 2] 43)) := ((Below.refl _ w6).alloc (Nat.le_refl _) _).alloc (by first | omega | (simp; done) | (simp; omega)) _
      have hbs4 := HRPq.out.lt
      have bT7 := bxT.grown hg7 (fun e => by have h9 : w6.heap.size = g := Option.some.inj e; omega)
      have RP6 := (HRPq.out.below MA).grown hg7 (fun b hb e => by have h9 : b = g := Option.some.inj e; subst h9; exact HRPq.out.ne hb)
      have hb7 : Below w.heap.size w w7 := (hblq.trans (MA.mono hblq.size)).grown hg7 (by have := hblq.size; have := MA.size; omega) (fun q hq => by cases hq; exact hgl.1)
      obtain ⟨g7, cap7, rfl, hc7, hm7, hL7, hg7'⟩ := row_some hr7 (by omega)
      have hg9 : g7 = g ∨ g7 = w6.heap.size + 1 + 1 := by
        rcases hat7 with e | e
        · exact Or.inl (Option.some.inj e)
        · have := Option.some.inj e; simp at this; exact Or.inr this
      have RP7 := Lib.hid (Rows2.snoc (r := [p.pId, t.pId]) RP6 rfl bT7 (fun b hb => by have := hbs4 b hb; omega) (by have := hblq.size; omega) (by omega) (fun hb => by
        rcases hg9 with e | e
        · rw [e] at hb; exact HRPq.out.ne hb
        · have := hbs4 _ hb; omega) (g7 := g7))
      have HO2 : Hid (ll ++ [[p.pId, t.pId]] = pairsQ xs st k ++ rowQ xs st p (q + 1)) := Lib.hid (by rw [HO.out, HMY.out, List.append_assoc])
      have HN2 : Hid ((ll ++ [[p.pId, t.pId]]).length = n + 1) := Lib.hid (by rw [List.length_append, HN.out]; rfl)
      have hr8 : w7.ownsRow w.heap.size 43 1 (.slice (some ⟨g7, 0, none⟩) (n + 1) cap7) (n + 1) ((bs ++ [w6.heap.size]).map slV2) := by rw [List.map_append]; exact hr7
      have hgn : ∀ c, g ≠ c → c < w6.heap.size → g7 ≠ c := fun c h1 h2 => by omega
      have hkeep : ∀ c, c < w6.heap.size → g ≠ c → w7.heap[c]? = w6.heap[c]? := fun c h1 h2 => (hg7.block c (by simp; omega) (fun e => h2 (Option.some.inj e).symm)).trans (MA.block c h1)
      have K1 := Lib.hid (show g7 ≠ b1 ∧ w7.heap[b1]? = w3.heap[b1]? from ⟨hgn b1 hgb1 (by omega), (hkeep b1 (by omega) hgb1).trans KK1.out⟩)
      have K2 := Lib.hid (show g7 ≠ b2 ∧ w7.heap[b2]? = w5.heap[b2]? from ⟨hgn b2 hgb2 (by omega), (hkeep b2 (by omega) hgb2).trans KK2.out⟩)
      have K3 := Lib.hid (show g7 ≠ bp ∧ Bx w7 bp (encPick p) from ⟨hgn bp hgbp hbpl, BP6.out.block (hkeep bp hbpl hgbp) (by have := hg7.size; have := MA.size; omega)⟩)
      have z7 : w6.heap.size ≤ w7.heap.size := by have := hg7.size; have := MA.size; omega
      clear hr7 RP6 hat7 hg7 bT7 bxT hgn hkeep
      go_wp2
      go_roundw
      case rel => exact ⟨q + 1, n + 1, g7, cap7, _, _, by omega, by go_num, rfl, HO2, HN2, hr8, RP7, K1, Lib.hid (fun _ b off e => by cases e; exact K2.out), K3, by omega, hb7⟩
      case measure => simp [intOf]; omega
end Go.Proofs.Ytklilfbokpljkaa
