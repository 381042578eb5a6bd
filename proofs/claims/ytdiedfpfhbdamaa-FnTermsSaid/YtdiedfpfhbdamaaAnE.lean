/- Amplitudes: the program's magnitudes, median and residuals. -/
import Derived.Test.YtdiedfpfhbdamaaAnD
import Derived.Test.YtdiedfpfhbdamaaAmF
namespace Go.Proofs.Ytdiedfpfhbdamaa
open Go.ChangeShapes Go.WideShapes Go.ChangeAt Go.RowKit Go.ChangeMaps Go.Sort
set_option linter.unusedSimpArgs false
set_option linter.unusedVariables false
set_option linter.unusedSimpArgs false
set_option linter.unusedVariables false

theorem okSw_wf {s : GSwing} (h : okSw s) : wfSwing s := by
  obtain ⟨a, b, c, d⟩ := h
  refine ⟨?_, ?_, ?_, ?_⟩ <;> (unfold I64; omega)
theorem okMg_ok {t : List GTableRow} {s : GSwing} (hs : okSw s) : okMg t s = (goodTb t && hasM t s) := by unfold okMg; rw [oneSw_mk hs, Bool.true_and]
/-- The magnitudes, whatever the table is. -/
def magsG (g : Bool) (t : List GTableRow) (l : List GSwing) : List Int := if g then magsV t l else []
theorem magsG_yes {t : List GTableRow} {l : List GSwing} {k : Nat} {s : GSwing} (h : l[k]? = some s) (e : (goodTb t && hasM t s) = true) : magsG (goodTb t) t (l.take (k + 1)) = magsG (goodTb t) t (l.take k) ++ [magV t s] := by
  rw [Bool.and_eq_true] at e
  rw [e.1]
  exact mags_yes h e.2
theorem magsG_no {t : List GTableRow} {l : List GSwing} {k : Nat} {s : GSwing} (h : l[k]? = some s) (e : (goodTb t && hasM t s) = false) : magsG (goodTb t) t (l.take (k + 1)) = magsG (goodTb t) t (l.take k) := by
  cases g : goodTb t with
  | false => rfl
  | true => rw [g, Bool.true_and] at e; exact mags_no h e
theorem magsG_len (g : Bool) (t : List GTableRow) (l : List GSwing) : (magsG g t l).length ≤ l.length := by
  unfold magsG
  split
  · exact magsV_len t l
  · exact Nat.zero_le _
noncomputable def magMd (t : List GTableRow) (l : List GSwing) : List Int := if goodSw l then magsG (goodTb t) t l else []
theorem okMd_mags {t : List GTableRow} {l : List GSwing} (h : goodSw l = true) : okMd t l = decide (0 < (magsG (goodTb t) t l).length) := by
  unfold okMd magsG
  rw [h, Bool.true_and]
  cases goodTb t <;> simp
theorem magMd_yes {t : List GTableRow} {l : List GSwing} (h : okMd t l = true) : magMd t l = magsV t l := by
  unfold okMd at h
  rw [Bool.and_eq_true, Bool.and_eq_true] at h
  unfold magMd magsG
  rw [if_pos h.2.1, if_pos h.1]
set_option maxRecDepth 100000 in
set_option maxHeartbeats 4000000 in
theorem implMags (t : List GTableRow) (v : Value) (l : List GSwing) (v2 : Value) (w : World) (B : Nat) (h : TableRowL w B v t) (h2 : SwingL w B v2 l) (hB : B ≤ w.heap.size) (hn : szsTableRow t ≤ 1048576) (hn2 : szsSwing l ≤ 1048576) (hw : ∀ s ∈ t, wfTableRow s) (hw2 : ∀ s ∈ l, wfSwing s) :
    Calls Try.prog 96 #[v, v2] w fun e w' => ∃ v', e = .returned (.tuple #[v', .bool (okMd t l)]) ∧ Own (Value.int .i64) w' w.heap.size w'.heap.size v' (magMd t l) ∧ Below w.heap.size w w' := by
  have CW := Lib.hid (fun u hu => implGoodW l v2 u w B h2 hB (Nat.le_trans (szsSwing_len l) hn2) hu)
  cases h3 : goodSw l with
  | false =>
    have C1 := Lib.hid (CW.out false h3)
    have e1 : okMd t l = false := by unfold okMd; rw [h3, Bool.false_and, Bool.and_false]
    have e2 : magMd t l = [] := by unfold magMd; rw [if_neg (by rw [h3]; simp)]
    rw [e1, e2]
    obtain ⟨ao, cap, rfl⟩ := h.form
    obtain ⟨ao2, cap2, rfl⟩ := h2.form
    clear h h2 h3 e1 e2
    go_enter Try.func96, Try.ntmps96
    go_wp2_with fail
    refine C1.out.mono ?_
    rintro e w1 ⟨rfl, hb⟩
    go_wp2
    go_ret2
    exact ⟨_, rfl, own_empty _ 3 hb.size, hb.alloc hb.size _⟩
  | true =>
  have C1 := Lib.hid (CW.out true h3)
  have hos := goodSw_yes h3
  have e1 := okMd_mags (t := t) h3
  have e2 : magMd t l = magsG (goodTb t) t l := by unfold magMd; rw [if_pos h3]
  rw [e1, e2]
  have CM := Lib.hid (fun s (W : World) (q : Below w.heap.size w W) (hs : okSw s) => by
    have := implMg t v s (aggW s) W B (h.below (q.mono hB)) rfl (Nat.le_trans hB q.size) hn (by simp [sz1Swing]) hw (okSw_wf hs)
    rw [okMg_ok hs] at this
    exact this)
  obtain ⟨ti, hi, hz0, hz1, hz2⟩ := info_parts infoInt
  have HOS := Lib.hid hos
  have hl10 := hos.2
  obtain ⟨ao, cap, rfl⟩ := h.form
  obtain ⟨ao2, cap2, rfl, hcap2, hmax2, -, hc2⟩ := h2
  have HC := Lib.hid hc2
  clear h hc2 h3 hos hw hw2 hn hn2 e1 e2
  go_enter Try.func96, Try.ntmps96
  go_wp2_with fail
  refine C1.out.mono ?_
  rintro e w2 ⟨rfl, N2⟩
  have hrow0 := row_empty w2 (base := w.heap.size) 3 1 N2.size
  have N3 : Below w.heap.size w (w2.alloc (.cells #[] 3)) := N2.alloc N2.size _
  go_wp2
  go_loopw [6, 8, 9, 10, 18] (fun ov _ _ _ i wr => ∃ (k c : Nat) (v : Value) (o : List Int), k ≤ l.length ∧ i = .int .i64 k ∧ ov = v ∧ c ≤ k ∧ Hid (o = magsG (goodTb t) t (l.take k)) ∧ Hid (o.length = c) ∧ wr.ownsRow w.heap.size 3 1 v c (o.map (Value.int .i64)) ∧ (∃ ao cap, v = .slice ao c cap) ∧ Below w.heap.size w wr) (fun _ _ _ _ i _ => l.length - (intOf i).toNat)
  case atStart => exact ⟨0, 0, _, [], Nat.zero_le _, rfl, rfl, Nat.le_refl _, Lib.hid (by unfold magsG; split <;> simp [magsV]), Lib.hid rfl, by simpa using hrow0, ⟨_, _, rfl⟩, N3⟩
  case round =>
    obtain ⟨k, c, _, o, hk, rfl, rfl, hck, HO, HOL, hrow, ⟨oa, oc, rfl⟩, hbl⟩ := hrel
    have hsz := hbl.size
    by_cases hlt : k < l.length
    case neg =>
      obtain rfl : k = l.length := by omega
      have HE : Hid (o = magsG (goodTb t) t l) := Lib.hid (by have := HO.out; rwa [List.take_length] at this)
      have hel : o.length = (magsG (goodTb t) t l).length := by rw [HE.out]
      rw [HOL.out] at hel
      by_cases hc0 : 0 < c
      · have HB : Hid (true = decide (0 < (magsG (goodTb t) t l).length)) := Lib.hid (decide_eq_true (by omega)).symm
        have g1 : (0 : Int) < (c : Int) := by omega
        have g2 : decide ((0 : Int) < (c : Int)) = true := decide_eq_true g1
        clear hel
        go_wp2
        go_ret2
        exact ⟨_, by rw [← HB.out]; rfl, by rw [← HE.out]; exact Own.of_row hrow, hbl⟩
      · have HB : Hid (false = decide (0 < (magsG (goodTb t) t l).length)) := Lib.hid (decide_eq_false (by omega)).symm
        have g1 : ¬ (0 : Int) < (c : Int) := by omega
        have g2 : decide ((0 : Int) < (c : Int)) = false := decide_eq_false g1
        clear hel
        go_wp2
        go_ret2
        exact ⟨_, by rw [← HB.out]; rfl, by rw [← HE.out]; exact Own.of_row hrow, hbl⟩
    obtain ⟨s, hs⟩ := get_of_lt hlt
    have hss := HOS.out.1.1 k s hlt hs
    obtain ⟨b, off, rfl, hbb, hcell⟩ := HC.out k s hs
    have c0 : wr.cell? ⟨b, off + k * 4, none⟩ = some (.int .i64 s.pStation) := cellOf hbl (by omega) (hcell 0 _ rfl)
    have c1 : wr.cell? ⟨b, off + k * 4 + 1, none⟩ = some (.int .i64 s.pFar) := cellOf hbl (by omega) (hcell 1 _ rfl)
    have c2 : wr.cell? ⟨b, off + k * 4 + 2, none⟩ = some (.int .i64 s.pWidth) := cellOf hbl (by omega) (hcell 2 _ rfl)
    have c3 : wr.cell? ⟨b, off + k * 4 + 3, none⟩ = some (.int .i64 s.pTerm) := cellOf hbl (by omega) (hcell 3 _ rfl)
    have hi0 : (0 : Int) ≤ (k : Int) := by omega
    have hi1 : (k : Int) < (l.length : Int) := by omega
    have hi2 : (l.length : Int) ≤ 10 := by omega
    obtain ⟨W1, hW1⟩ : ∃ W1, wr.alloc (objW s) = W1 := ⟨_, rfl⟩
    have A1 : Below wr.heap.size wr W1 := hW1 ▸ (Below.refl _ _).alloc (Nat.le_refl _) _
    have bx : Bx W1 wr.heap.size [.int .i64 s.pStation, .int .i64 s.pFar, .int .i64 s.pWidth, .int .i64 s.pTerm] := hW1 ▸ Bx.new wr [.int .i64 s.pStation, .int .i64 s.pFar, .int .i64 s.pWidth, .int .i64 s.pTerm] 63
    have N2 := hbl.trans (A1.mono hsz)
    have CMS := Lib.hid (CM.out s W1 N2 hss)
    have HT := Lib.hid hs
    have b0 := bx.2 0 _ rfl
    have b1 := bx.2 1 _ rfl
    have b2 := bx.2 2 _ rfl
    have b3 := bx.2 3 _ rfl
    have hrow1 := row_below hrow A1
    clear hcell hss hs hrow
    cases hh : (goodTb t && hasM t s) with
    | false =>
      have CN := CMS.out
      rw [hh] at CN
      have HO2 : Hid (o = magsG (goodTb t) t (l.take (k + 1))) := Lib.hid (by rw [magsG_no HT.out hh]; exact HO.out)
      generalize numMg t s = nm at *
      have CN := Lib.hid CN
      clear CMS hh
      go_wp2_with fail
      clear hW1 c0 c1 c2 c3 b0 b1 b2 b3
      refine CN.out.mono ?_
      rintro e w4 ⟨rfl, hb4⟩
      have hrow4 := row_below hrow1 hb4
      have hbl4 := N2.trans (hb4.mono N2.size)
      go_wp2
      go_roundw
      case rel => exact ⟨k + 1, c, _, o, by omega, by go_num, rfl, by omega, HO2, HOL, hrow4, ⟨_, _, rfl⟩, hbl4⟩
      case measure => simp [intOf]; omega
    | true =>
      have CN := CMS.out
      rw [hh] at CN
      have hmg : numMg t s = magV t s := numMg_yes (by rw [okMg_ok (HOS.out.1.1 k s hlt HT.out)]; exact hh)
      rw [hmg] at CN
      have HO2 : Hid (o ++ [magV t s] = magsG (goodTb t) t (l.take (k + 1))) := Lib.hid (by rw [magsG_yes HT.out hh, ← HO.out])
      generalize magV t s = x at *
      have HOL2 : Hid ((o ++ [x]).length = c + 1) := Lib.hid (by rw [List.length_append, HOL.out]; rfl)
      have CN := Lib.hid CN
      clear CMS hh hmg
      go_wp2_with fail
      clear hW1 c0 c1 c2 c3 b0 b1 b2 b3
      refine CN.out.mono ?_
      rintro e w4 ⟨rfl, hb4⟩
      have hrow4 := row_below hrow1 hb4
      have hbl4 := N2.trans (hb4.mono N2.size)
      have hsz4 := hbl4.size
      go_wp2_with (at_builtin; refine wpList_append_own _ rfl _ _ 29 rfl (w.heap.size) 3 ti (.int .i64 0) 1 8 Try.underlying29 hi hz0 hz1 hz2 rfl (by decide) _ c (o.map (Value.int .i64)) rfl (hrow4.alloc _) ⟨w4.heap.size, 0, none⟩ 1 1 [.int .i64 x] rfl rfl (cell_one_new _ _ _) (by simp [Value.oneCell']) (by unfold maxLen; omega) (by omega) (by first | omega | (simp; done) | (simp; omega)) ?_; intro v3 w3 hown' hgrow _; have b3 := below_app2 hrow4 hgrow hsz4 (Nat.le_refl _))
      have hown2 : w3.ownsRow w.heap.size 3 1 v3 (c + 1) ((o ++ [x]).map (Value.int .i64)) := by simpa using hown'
      obtain ⟨a3, c3, rfl⟩ := row_form hown2
      clear hgrow hown' hrow4
      go_wp2
      go_roundw
      case rel => exact ⟨k + 1, c + 1, _, _, by omega, by go_num, rfl, by omega, HO2, HOL2, hown2, ⟨_, _, rfl⟩, hbl4.trans b3⟩
      case measure => simp [intOf]; omega
set_option maxHeartbeats 1000000 in
theorem implMd (t : List GTableRow) (v : Value) (l : List GSwing) (v2 : Value) (w : World) (B : Nat) (h : TableRowL w B v t) (h2 : SwingL w B v2 l) (hB : B ≤ w.heap.size) (hn : szsTableRow t ≤ 1048576) (hn2 : szsSwing l ≤ 1048576) (hw : ∀ s ∈ t, wfTableRow s) (hw2 : ∀ s ∈ l, wfSwing s) :
    Calls Try.prog 40 #[v, v2] w fun e w' => e = .returned (.tuple #[.int .i64 (numMd t l), .bool (okMd t l)]) ∧ Below w.heap.size w w' := by
  have C1 := Lib.hid (implMags t v l v2 w B h h2 hB hn hn2 hw hw2)
  have hll := szsSwing_len l
  obtain ⟨ao, cap, rfl⟩ := h.form
  obtain ⟨ao2, cap2, rfl⟩ := h2.form
  clear h h2
  cases hk : okMd t l with
  | false =>
    rw [hk] at C1
    rw [numMd_no hk]
    clear hk
    go_enter Try.func40, Try.ntmps40
    go_wp2_with fail
    refine C1.out.mono ?_
    rintro e w1 ⟨v1, rfl, hown, hb⟩
    obtain ⟨a1, c1, rfl⟩ := hown.form
    go_wp2
    go_ret2
    exact ⟨rfl, hb⟩
  | true =>
    rw [hk, magMd_yes hk] at C1
    rw [numMd_yes hk]
    have hp := (okMd_yes hk).2.2
    have hml := magsV_len t l
    have CM := Lib.hid (fun v1 (W : World) (hl : Lst (Value.int .i64) W W.heap.size v1 (magsV t l)) => implMid (magsV t l) v1 W W.heap.size hl (Nat.le_refl _) (by omega) hp)
    have hmv : medV t l = mid (magsV t l) := rfl
    rw [hmv]
    generalize magsV t l = ms at *
    generalize mid ms = mv at *
    clear hk hmv
    go_enter Try.func40, Try.ntmps40
    go_wp2_with fail
    refine C1.out.mono ?_
    rintro e w1 ⟨v1, rfl, hown, hb⟩
    have hl1 := hown.lst
    obtain ⟨a1, c1, rfl⟩ := hown.form
    go_wp2_with fail
    refine (CM.out _ _ hl1).mono ?_
    rintro e w2 ⟨rfl, hb2⟩
    go_wp2
    go_ret2
    exact ⟨rfl, hb.trans (hb2.mono hb.size)⟩
theorem map_take_snoc {ms : List Int} {k : Nat} {x mv : Int} (h : ms[k]? = some x) : (ms.take (k + 1)).map (· - mv) = (ms.take k).map (· - mv) ++ [x - mv] := by rw [take_snoc h, List.map_append]; rfl
set_option maxRecDepth 100000 in
set_option maxHeartbeats 2000000 in
theorem implRs (t : List GTableRow) (v : Value) (l : List GSwing) (v2 : Value) (w : World) (B : Nat) (h : TableRowL w B v t) (h2 : SwingL w B v2 l) (hB : B ≤ w.heap.size) (hn : szsTableRow t ≤ 1048576) (hn2 : szsSwing l ≤ 1048576) (hw : ∀ s ∈ t, wfTableRow s) (hw2 : ∀ s ∈ l, wfSwing s) :
    Calls Try.prog 37 #[v, v2] w fun e w' => ∃ v', e = .returned (.tuple #[v', .bool (okMd t l)]) ∧ Own (Value.int .i64) w' w.heap.size w'.heap.size v' (resMd t l) ∧ Below w.heap.size w w' := by
  have C1 := Lib.hid (implMags t v l v2 w B h h2 hB hn hn2 hw hw2)
  have hll := szsSwing_len l
  obtain ⟨ao, cap, rfl⟩ := h.form
  obtain ⟨ao2, cap2, rfl⟩ := h2.form
  clear h h2
  cases hk : okMd t l with
  | false =>
    rw [hk] at C1
    rw [resMd_no hk]
    clear hk
    go_enter Try.func37, Try.ntmps37
    go_wp2_with fail
    refine C1.out.mono ?_
    rintro e w1 ⟨v1, rfl, hown, hb⟩
    obtain ⟨a1, c1, rfl⟩ := hown.form
    go_wp2
    go_ret2
    exact ⟨_, rfl, own_empty _ 3 hb.size, hb.alloc hb.size _⟩
  | true =>
    rw [hk, magMd_yes hk] at C1
    rw [resMd_yes hk]
    obtain ⟨hok, hos, hp⟩ := okMd_yes hk
    have hbd := magsV_bd hok hos
    have hmb := medV_bd hok hos hp
    have hml := magsV_len t l
    have hl10 := hos.2
    have CM := Lib.hid (fun v1 (W : World) (hl : Lst (Value.int .i64) W W.heap.size v1 (magsV t l)) => implMid (magsV t l) v1 W W.heap.size hl (Nat.le_refl _) (by omega) hp)
    have hrv : resV t l = (magsV t l).map (· - mid (magsV t l)) := rfl
    have hmv : medV t l = mid (magsV t l) := rfl
    rw [hrv]
    rw [hmv] at hmb
    generalize magsV t l = ms at *
    generalize mid ms = mv at *
    have HBD := Lib.hid hbd
    have hm10 : ms.length ≤ 10 := by omega
    obtain ⟨ti, hi, hz0, hz1, hz2⟩ := info_parts infoInt
    clear hk hmv hrv hok hos hbd hp hw hw2
    go_enter Try.func37, Try.ntmps37
    go_wp2_with fail
    refine C1.out.mono ?_
    rintro e w1 ⟨v1, rfl, hown, hb⟩
    have hl1 := hown.lst
    obtain ⟨a1, c1, rfl⟩ := hown.form
    go_wp2_with fail
    refine (CM.out _ _ hl1).mono ?_
    rintro e w2 ⟨rfl, hb2⟩
    have N2 := hb.trans (hb2.mono hb.size)
    have hl2 := (hl1.below hb2).mono (B' := w2.heap.size) hb2.size
    obtain ⟨a9, c9, e9, hcap9, hmax9, -, hc9⟩ := hl2
    simp only [Value.slice.injEq, true_and] at e9
    obtain ⟨rfl, rfl⟩ := e9
    have HC := Lib.hid hc9
    have hrow0 := row_empty w2 (base := w2.heap.size) 3 1 (Nat.le_refl _)
    have N3 : Below w.heap.size w (w2.alloc (.cells #[] 3)) := N2.alloc N2.size _
    have A3 : Below w2.heap.size w2 (w2.alloc (.cells #[] 3)) := (Below.refl _ _).alloc (Nat.le_refl _) _
    clear hown hl1 hc9 hb hb2 C1 CM
    go_wp2
    rename World => wo
    go_loopw [9, 11, 26] (fun ov _ i wr => ∃ (k : Nat) (v : Value) (o : List Int), k ≤ ms.length ∧ i = .int .i64 k ∧ ov = v ∧ Hid (o = (ms.take k).map (· - mv)) ∧ wr.ownsRow wo.heap.size 3 1 v k (o.map (Value.int .i64)) ∧ (∃ ao cap, v = .slice ao k cap) ∧ Below wo.heap.size wo wr) (fun _ _ i _ => ms.length - (intOf i).toNat)
    case atStart => exact ⟨0, _, [], Nat.zero_le _, rfl, rfl, Lib.hid rfl, by simpa using hrow0, ⟨_, _, rfl⟩, A3⟩
    case round =>
      obtain ⟨k, _, o, hk, rfl, rfl, HO, hrow, ⟨oa, oc, rfl⟩, hbo⟩ := hrel
      have hbl := N2.trans (hbo.mono N2.size)
      have hsz := hbl.size
      by_cases hlt : k < ms.length
      case neg =>
        obtain rfl : k = ms.length := by omega
        have HE : Hid (o = ms.map (· - mv)) := Lib.hid (by have := HO.out; rwa [List.take_length] at this)
        go_wp2
        go_ret2
        exact ⟨_, rfl, by rw [← HE.out]; exact (Own.of_row hrow).mono N2.size (Nat.le_refl _), hbl⟩
      obtain ⟨x, hx⟩ := get_of_lt hlt
      have hxb := HBD.out x (List.mem_of_getElem? hx)
      obtain ⟨b, off, rfl, hbb, hcx⟩ := HC.out k x hx
      have c0 := cellOf hbo hbb hcx
      have hi0 : (0 : Int) ≤ (k : Int) := by omega
      have hi1 : (k : Int) < (ms.length : Int) := by omega
      have HO2 : Hid (o ++ [x - mv] = (ms.take (k + 1)).map (· - mv)) := Lib.hid (by rw [map_take_snoc hx, ← HO.out])
      have s1 : IntKind.i64.wrap (x - mv) = x - mv := IntWalk.i64_in _ (by omega)
      have s2 : wrap64 (x - mv) = x - mv := by unfold wrap64; omega
      have hszo := hbo.size
      clear hx hcx
      go_wp2_with (at_builtin; refine wpList_append_own _ rfl _ _ 29 rfl (wo.heap.size) 3 ti (.int .i64 0) 1 8 Try.underlying29 hi hz0 hz1 hz2 rfl (by decide) _ k (o.map (Value.int .i64)) rfl (hrow.alloc _) ⟨wr.heap.size, 0, none⟩ 1 1 [.int .i64 (x - mv)] rfl rfl (cell_one_new _ _ _) (by simp [Value.oneCell']) (by unfold maxLen; omega) (by omega) (by first | omega | (simp; done) | (simp; omega)) ?_; intro v3 w3 hown' hgrow _; have b3 := below_app2 hrow hgrow hszo (Nat.le_refl _))
      have hown2 : w3.ownsRow wo.heap.size 3 1 v3 (k + 1) ((o ++ [x - mv]).map (Value.int .i64)) := by simpa using hown'
      have hb4 : Below wo.heap.size wo w3 := hbo.trans b3
      obtain ⟨a3, c3, rfl⟩ := row_form hown2
      clear hgrow hown' hrow
      go_wp2
      go_roundw
      case rel => exact ⟨k + 1, _, _, by omega, by go_num, rfl, HO2, hown2, ⟨_, _, rfl⟩, hb4⟩
      case measure => simp [intOf]; omega
end Go.Proofs.Ytdiedfpfhbdamaa
