/- Amplitudes: the specification's residuals and new terms. -/
import Derived.Test.YtdiedfpfhbdamaaAmE
namespace Go.Proofs.Ytdiedfpfhbdamaa
open Go.ChangeShapes Go.WideShapes Go.ChangeAt Go.RowKit Go.ChangeMaps Go.Sort
set_option linter.unusedSimpArgs false
set_option linter.unusedVariables false
set_option linter.unusedSimpArgs false
set_option linter.unusedVariables false

theorem okMd_yes {t : List GTableRow} {l : List GSwing} (h : okMd t l = true) : okTb t ∧ okSws l ∧ 0 < (magsV t l).length := by
  unfold okMd at h
  rw [Bool.and_eq_true, Bool.and_eq_true] at h
  exact ⟨goodTb_yes h.1, goodSw_yes h.2.1, of_decide_eq_true h.2.2⟩
def resTo (t : List GTableRow) (m : Int) (l : List GSwing) (k : Nat) : List Int := (magsV t (l.take k)).map (· - m)
theorem resTo_yes {t : List GTableRow} {l : List GSwing} {k : Nat} {s : GSwing} {m : Int} (h : l[k]? = some s) (e : hasM t s = true) : resTo t m l (k + 1) = resTo t m l k ++ [magV t s - m] := by unfold resTo; rw [mags_yes h e, List.map_append]; rfl
theorem resTo_no {t : List GTableRow} {l : List GSwing} {k : Nat} {s : GSwing} {m : Int} (h : l[k]? = some s) (e : hasM t s = false) : resTo t m l (k + 1) = resTo t m l k := by unfold resTo; rw [mags_no h e]
theorem resTo_all (t : List GTableRow) (l : List GSwing) : resTo t (medV t l) l l.length = resV t l := by unfold resTo resV; rw [List.take_length]
def termsTo (t : List GTableRow) (m : Int) (l : List GSwing) (k : Nat) : List GSwing := (l.take k).map (termV t m)
theorem termsTo_succ {t : List GTableRow} {l : List GSwing} {k : Nat} {s : GSwing} {m : Int} (h : l[k]? = some s) : termsTo t m l (k + 1) = termsTo t m l k ++ [termV t m s] := by unfold termsTo; rw [take_snoc h, List.map_append]; rfl
theorem termsTo_all (t : List GTableRow) (l : List GSwing) : termsTo t (medV t l) l l.length = termsV t l := by unfold termsTo termsV; rw [List.take_length]
theorem termV_no {t : List GTableRow} {m : Int} {s : GSwing} (h : hasM t s = false) : termV t m s = s := by unfold termV; rw [if_neg (by rw [h]; simp)]
theorem termV_yes {t : List GTableRow} {m : Int} {s : GSwing} (h : hasM t s = true) : termV t m s = ⟨s.pStation, s.pFar, s.pWidth, max (-50) (min 50 (s.pTerm - magV t s + m))⟩ := by unfold termV; rw [if_pos h]
theorem ownsRow_setOtherW {w : World} {base size n : Nat} {e : TypeId} {v : Value} {xs : List Value} (h : w.ownsRow base e size v n xs) {a : Addr} (ha : ∀ g, v.ownBlock = some g → a.block ≠ g) (u : Value) : (w.setCell a u).ownsRow base e size v n xs := by
  refine ⟨h.1, ?_⟩
  rcases h.2 with h0 | ⟨g, cap, cur, hv, hg, hh, r⟩
  · exact Or.inl h0
  · refine Or.inr ⟨g, cap, cur, hv, hg, ?_, r⟩
    rw [Below.heap_setCell w a u g (by have := ha g (by rw [hv]; rfl); omega)]
    exact hh
theorem oneCellW (s : GSwing) : ∀ u ∈ encSwing s, u.oneCell' = true := fun u hu => oneSwing [s] u (by simpa using hu)
set_option maxRecDepth 100000 in
set_option maxHeartbeats 4000000 in
theorem specRs (t : List GTableRow) (v : Value) (l : List GSwing) (v2 : Value) (w : World) (B : Nat) (h : TableRowL w B v t) (h2 : SwingL w B v2 l) (hB : B ≤ w.heap.size) (hn : szsTableRow t ≤ 1048576) (hn2 : szsSwing l ≤ 1048576) (hw : ∀ s ∈ t, wfTableRow s) (hw2 : ∀ s ∈ l, wfSwing s) :
    Calls Try.prog 38 #[v, v2] w fun e w' => ∃ v', e = .returned (.tuple #[v', .bool (okMd t l)]) ∧ Own (Value.int .i64) w' w.heap.size w'.heap.size v' (resMd t l) ∧ Below w.heap.size w w' := by
  obtain ⟨W0, hW0⟩ : ∃ W0, w.alloc (.cells #[] 3) = W0 := ⟨_, rfl⟩
  have N0 : Below w.heap.size w W0 := hW0 ▸ (Below.refl w.heap.size w).alloc (Nat.le_refl _) _
  have hrow0 : W0.ownsRow w.heap.size 3 1 (.slice (some ⟨w.heap.size, 0, none⟩) 0 0) 0 [] := hW0 ▸ row_empty w 3 1 (Nat.le_refl _)
  have z0 := N0.size
  have C1 := Lib.hid (specMd t v l v2 W0 B (h.below (N0.mono hB)) (h2.below (N0.mono hB)) (Nat.le_trans hB z0) hn hn2 hw hw2)
  cases hk : okMd t l with
  | false =>
    rw [hk] at C1
    rw [resMd_no hk]
    generalize numMd t l = nm at *
    obtain ⟨ao, cap, rfl⟩ := h.form
    obtain ⟨ao2, cap2, rfl⟩ := h2.form
    clear h h2 hk
    go_enter Try.func38, Try.ntmps38
    go_wp2_with fail
    clear hW0
    refine C1.out.mono ?_
    rintro e w1 ⟨rfl, hb⟩
    have hrow1 := row_below hrow0 hb
    have N1 := N0.trans (hb.mono z0)
    go_wp2
    go_ret2
    exact ⟨_, rfl, Own.of_row (xs := []) (by simpa using hrow1), N1⟩
  | true =>
  obtain ⟨hok, hos, hpos⟩ := okMd_yes hk
  have hmb := medV_bd hok hos hpos
  rw [hk, numMd_yes hk] at C1
  rw [resMd_yes hk]
  have CM := Lib.hid (fun s (W : World) (q : Below w.heap.size w W) (hs : okSw s) => specMag t v s W B (h.below (q.mono hB)) (Nat.le_trans hB q.size) hok hs)
  have HA := Lib.hid (resTo_all t l)
  generalize medV t l = mv at *
  obtain ⟨ti, hi, hz0, hz1, hz2⟩ := info_parts infoInt
  have HOS := Lib.hid hos
  have HOK := Lib.hid hok
  have hl10 := hos.2
  obtain ⟨ao, cap, rfl⟩ := h.form
  obtain ⟨ao2, cap2, rfl, hcap2, hmax2, -, hc2⟩ := h2
  have HC := Lib.hid hc2
  clear h hc2 hok hos hw hw2 hn hn2 hk hpos
  go_enter Try.func38, Try.ntmps38
  go_wp2_with fail
  clear hW0
  refine C1.out.mono ?_
  rintro e w1 ⟨rfl, hb⟩
  have hrow1 := row_below hrow0 hb
  have N1 := N0.trans (hb.mono z0)
  clear hrow0 N0 hb C1
  go_wp2
  go_loopw [6, 9, 10, 11] (fun ov i _ _ wr => ∃ (k c : Nat) (v : Value) (o : List Int), k ≤ l.length ∧ i = .int .i64 k ∧ ov = v ∧ c ≤ k ∧ Hid (o = resTo t mv l k) ∧ wr.ownsRow w.heap.size 3 1 v c (o.map (Value.int .i64)) ∧ (∃ ao cap, v = .slice ao c cap) ∧ Below w.heap.size w wr) (fun _ i _ _ _ => l.length - (intOf i).toNat)
  case atStart => exact ⟨0, 0, _, [], Nat.zero_le _, rfl, rfl, Nat.le_refl _, Lib.hid (by simp [resTo, magsV]), by simpa using hrow1, ⟨_, _, rfl⟩, N1⟩
  case round =>
    obtain ⟨k, c, _, o, hk, rfl, rfl, hck, HO, hrow, ⟨oa, oc, rfl⟩, hbl⟩ := hrel
    have hsz := hbl.size
    by_cases hlt : k < l.length
    case neg =>
      obtain rfl : k = l.length := by omega
      have HE := Lib.hid (HO.out.trans HA.out)
      go_wp2
      go_ret2
      exact ⟨_, rfl, by rw [← HE.out]; exact Own.of_row hrow, hbl⟩
    obtain ⟨s, hs⟩ := get_of_lt hlt
    have hss := HOS.out.1.1 k s hlt hs
    obtain ⟨b, off, rfl, hbb, hcell⟩ := HC.out k s hs
    have c0 : wr.cell? ⟨b, off + k * 4, none⟩ = some (.int .i64 s.pStation) := cellOf hbl (by omega) (hcell 0 _ rfl)
    have c1 : wr.cell? ⟨b, off + k * 4 + 1, none⟩ = some (.int .i64 s.pFar) := cellOf hbl (by omega) (hcell 1 _ rfl)
    have c2 : wr.cell? ⟨b, off + k * 4 + 2, none⟩ = some (.int .i64 s.pWidth) := cellOf hbl (by omega) (hcell 2 _ rfl)
    have c3 : wr.cell? ⟨b, off + k * 4 + 3, none⟩ = some (.int .i64 s.pTerm) := cellOf hbl (by omega) (hcell 3 _ rfl)
    have hi0 : (0 : Int) ≤ (k : Int) := by omega
    have hi1 : (k : Int) < (l.length : Int) := by omega
    have hi2 : (l.length : Int) ≤ 10 := by omega
    have hmv := magV_bd HOK.out hss
    have hst := hss.2.2.2
    have CMS := Lib.hid (CM.out s wr hbl hss)
    have HT := Lib.hid hs
    clear hcell hss hs
    cases hh : hasM t s with
    | false =>
      have e1 := CMS.out
      rw [hh] at e1
      simp only [Bool.false_eq_true, if_false] at e1
      have CN := Lib.hid e1
      have HO2 : Hid (o = resTo t mv l (k + 1)) := Lib.hid (by rw [resTo_no HT.out hh]; exact HO.out)
      clear e1 CMS hh
      go_wp2_with fail
      refine CN.out.mono ?_
      rintro e w4 ⟨rfl, hb4⟩
      have hrow4 := row_below hrow hb4
      have hbl4 := hbl.trans (hb4.mono hsz)
      clear c0 c1 c2 c3
      go_wp2
      go_roundw
      case rel => exact ⟨k + 1, c, _, o, by omega, by go_num, rfl, by omega, HO2, hrow4, ⟨_, _, rfl⟩, hbl4⟩
      case measure => simp [intOf]; omega
    | true =>
      have e1 := CMS.out
      rw [hh] at e1
      simp only [if_true] at e1
      have HO2 : Hid (o ++ [magV t s - mv] = resTo t mv l (k + 1)) := Lib.hid (by rw [resTo_yes HT.out hh, ← HO.out])
      generalize magV t s = x at *
      have CN := Lib.hid e1
      clear e1 CMS hh
      have s1 : IntKind.i64.wrap (x - mv) = x - mv := IntWalk.i64_in _ (by omega)
      have s2 : wrap64 (x - mv) = x - mv := by unfold wrap64; omega
      go_wp2_with fail
      refine CN.out.mono ?_
      rintro e w4 ⟨rfl, hb4⟩
      have hrow4 := row_below hrow hb4
      have hbl4 := hbl.trans (hb4.mono hsz)
      have hsz4 := hbl4.size
      clear c0 c1 c2 c3
      go_wp2_with (at_builtin; refine wpList_append_own _ rfl _ _ 29 rfl (w.heap.size) 3 ti (.int .i64 0) 1 8 Try.underlying29 hi hz0 hz1 hz2 rfl (by decide) _ c (o.map (Value.int .i64)) rfl (hrow4.alloc _) ⟨w4.heap.size, 0, none⟩ 1 1 [.int .i64 (x - mv)] rfl rfl (cell_one_new _ _ _) (by simp [Value.oneCell']) (by unfold maxLen; omega) (by omega) (by first | omega | (simp; done) | (simp; omega)) ?_; intro v3 w3 hown' hgrow _; have b3 := below_app2 hrow4 hgrow hsz4 (Nat.le_refl _))
      have hown2 : w3.ownsRow w.heap.size 3 1 v3 (c + 1) ((o ++ [x - mv]).map (Value.int .i64)) := by simpa using hown'
      obtain ⟨a3, c3, rfl⟩ := row_form hown2
      clear hgrow hrow hown' hrow4
      go_wp2
      go_roundw
      case rel => exact ⟨k + 1, c + 1, _, _, by omega, by go_num, rfl, by omega, HO2, hown2, ⟨_, _, rfl⟩, hbl4.trans b3⟩
      case measure => simp [intOf]; omega
set_option maxRecDepth 100000 in
set_option maxHeartbeats 4000000 in
theorem specNt (t : List GTableRow) (v : Value) (l : List GSwing) (v2 : Value) (w : World) (B : Nat) (h : TableRowL w B v t) (h2 : SwingL w B v2 l) (hB : B ≤ w.heap.size) (hn : szsTableRow t ≤ 1048576) (hn2 : szsSwing l ≤ 1048576) (hw : ∀ s ∈ t, wfTableRow s) (hw2 : ∀ s ∈ l, wfSwing s) :
    Calls Try.prog 45 #[v, v2] w fun e w' => ∃ v', e = .returned (.tuple #[v', .bool (okMd t l)]) ∧ SwingO w' w.heap.size w'.heap.size v' (swgMd t l) ∧ Below w.heap.size w w' := by
  obtain ⟨W0, hW0⟩ : ∃ W0, w.alloc (.cells #[] 63) = W0 := ⟨_, rfl⟩
  have N0 : Below w.heap.size w W0 := hW0 ▸ (Below.refl w.heap.size w).alloc (Nat.le_refl _) _
  have hrow0 : W0.ownsRow w.heap.size 63 4 (.slice (some ⟨w.heap.size, 0, none⟩) 0 0) 0 [] := hW0 ▸ rowK_empty w _ _ (Nat.le_refl _)
  have z0 := N0.size
  have C1 := Lib.hid (specMd t v l v2 W0 B (h.below (N0.mono hB)) (h2.below (N0.mono hB)) (Nat.le_trans hB z0) hn hn2 hw hw2)
  cases hk : okMd t l with
  | false =>
    rw [hk] at C1
    rw [swgMd_no hk]
    generalize numMd t l = nm at *
    obtain ⟨ao, cap, rfl⟩ := h.form
    obtain ⟨ao2, cap2, rfl⟩ := h2.form
    clear h h2 hk
    go_enter Try.func45, Try.ntmps45
    go_wp2_with fail
    clear hW0
    refine C1.out.mono ?_
    rintro e w1 ⟨rfl, hb⟩
    have hrow1 := row_below hrow0 hb
    have N1 := N0.trans (hb.mono z0)
    go_wp2
    go_ret2
    exact ⟨_, rfl, OwnK.of_row encSwing_len (by omega) (xs := []) (by simpa using hrow1), N1⟩
  | true =>
  obtain ⟨hok, hos, hpos⟩ := okMd_yes hk
  have hmb := medV_bd hok hos hpos
  rw [hk, numMd_yes hk] at C1
  rw [swgMd_yes hk]
  have CM := Lib.hid (fun s (W : World) (q : Below w.heap.size w W) (hs : okSw s) => specMag t v s W B (h.below (q.mono hB)) (Nat.le_trans hB q.size) hok hs)
  have HA := Lib.hid (termsTo_all t l)
  generalize medV t l = mv at *
  obtain ⟨ti, hi, hz0, hz1, hz2⟩ := info_parts info_Swing
  have HOS := Lib.hid hos
  have HOK := Lib.hid hok
  have hl10 := hos.2
  obtain ⟨ao, cap, rfl⟩ := h.form
  obtain ⟨ao2, cap2, rfl, hcap2, hmax2, -, hc2⟩ := h2
  have HC := Lib.hid hc2
  clear h hc2 hok hos hw hw2 hn hn2 hk hpos
  go_enter Try.func45, Try.ntmps45
  go_wp2_with fail
  clear hW0
  refine C1.out.mono ?_
  rintro e w1 ⟨rfl, hb⟩
  have hrow1 := row_below hrow0 hb
  have N1 := N0.trans (hb.mono z0)
  clear hrow0 N0 hb C1
  go_wp2
  go_loopw [6, 9, 10, 11, 12] (fun ov i _ _ _ wr => ∃ (k : Nat) (v : Value) (o : List GSwing), k ≤ l.length ∧ i = .int .i64 k ∧ ov = v ∧ Hid (o = termsTo t mv l k) ∧ wr.ownsRow w.heap.size 63 4 v k (o.flatMap encSwing) ∧ (∃ ao cap, v = .slice ao k cap) ∧ Below w.heap.size w wr) (fun _ i _ _ _ _ => l.length - (intOf i).toNat)
  case atStart => exact ⟨0, _, [], Nat.zero_le _, rfl, rfl, Lib.hid (by simp [termsTo]), by simpa using hrow1, ⟨_, _, rfl⟩, N1⟩
  case round =>
    obtain ⟨k, _, o, hk, rfl, rfl, HO, hrow, ⟨oa, oc, rfl⟩, hbl⟩ := hrel
    have hsz := hbl.size
    by_cases hlt : k < l.length
    case neg =>
      obtain rfl : k = l.length := by omega
      have HE := Lib.hid (HO.out.trans HA.out)
      go_wp2
      go_ret2
      exact ⟨_, rfl, by rw [← HE.out]; exact OwnK.of_row encSwing_len (by omega) hrow, hbl⟩
    obtain ⟨s, hs⟩ := get_of_lt hlt
    have hss := HOS.out.1.1 k s hlt hs
    obtain ⟨b, off, rfl, hbb, hcell⟩ := HC.out k s hs
    have c0 : wr.cell? ⟨b, off + k * 4, none⟩ = some (.int .i64 s.pStation) := cellOf hbl (by omega) (hcell 0 _ rfl)
    have c1 : wr.cell? ⟨b, off + k * 4 + 1, none⟩ = some (.int .i64 s.pFar) := cellOf hbl (by omega) (hcell 1 _ rfl)
    have c2 : wr.cell? ⟨b, off + k * 4 + 2, none⟩ = some (.int .i64 s.pWidth) := cellOf hbl (by omega) (hcell 2 _ rfl)
    have c3 : wr.cell? ⟨b, off + k * 4 + 3, none⟩ = some (.int .i64 s.pTerm) := cellOf hbl (by omega) (hcell 3 _ rfl)
    have hi0 : (0 : Int) ≤ (k : Int) := by omega
    have hi1 : (k : Int) < (l.length : Int) := by omega
    have hi2 : (l.length : Int) ≤ 10 := by omega
    have hmv := magV_bd HOK.out hss
    have hst := hss.2.2.2
    obtain ⟨W1, hW1⟩ : ∃ W1, wr.alloc (.cells #[.int .i64 s.pStation, .int .i64 s.pFar, .int .i64 s.pWidth, .int .i64 s.pTerm] 63) = W1 := ⟨_, rfl⟩
    have A1 : Below wr.heap.size wr W1 := hW1 ▸ (Below.refl _ _).alloc (Nat.le_refl _) _
    have bx : Bx W1 wr.heap.size [.int .i64 s.pStation, .int .i64 s.pFar, .int .i64 s.pWidth, .int .i64 s.pTerm] := hW1 ▸ Bx.new wr [.int .i64 s.pStation, .int .i64 s.pFar, .int .i64 s.pWidth, .int .i64 s.pTerm] 63
    have N2 := hbl.trans (A1.mono hsz)
    have hrow1 := row_below hrow A1
    have CMS := Lib.hid (CM.out s W1 N2 hss)
    have HT := Lib.hid hs
    have hrb : ∀ g, (Value.slice oa k oc).ownBlock = some g → g < wr.heap.size := fun g hg => (hrow.lt g hg).2
    have b0 := bx.2 0 _ rfl
    have b1 := bx.2 1 _ rfl
    have b2 := bx.2 2 _ rfl
    have b3 := bx.2 3 _ rfl
    clear hcell hss hs hrow
    cases hh : hasM t s with
    | false =>
      have e1 := CMS.out
      rw [hh] at e1
      simp only [Bool.false_eq_true, if_false] at e1
      have CN := Lib.hid e1
      have HO2 : Hid (o ++ [s] = termsTo t mv l (k + 1)) := Lib.hid (by rw [termsTo_succ HT.out, termV_no hh, ← HO.out])
      clear e1 CMS hh
      go_wp2_with fail
      clear hW1 c0 c1 c2 c3 b0 b1 b2 b3
      refine CN.out.mono ?_
      rintro e w4 ⟨rfl, hb4⟩
      have hrow4 := row_below hrow1 hb4
      have hbl4 := N2.trans (hb4.mono N2.size)
      have bx4 := bx.below hb4
      have b0 := bx4.2 0 _ rfl
      have b1 := bx4.2 1 _ rfl
      have b2 := bx4.2 2 _ rfl
      have b3 := bx4.2 3 _ rfl
      have hsz4 := hbl4.size
      have HSRC := Lib.hid (srcK_box (Bx.new w4 (encSwing s) 63) (oneCellW s))
      go_wp2_with (at_builtin; refine wpList_append_srcK _ rfl _ _ 52 rfl w.heap.size 63 ti (.agg #[.int .i64 0, .int .i64 0, .int .i64 0, .int .i64 0]) 4 32 Try.underlying52 hi hz0 hz1 hz2 rfl (by decide) _ k (o.flatMap encSwing) rfl (hrow4.alloc _) _ 1 (encSwing s) rfl HSRC.out (by unfold maxLen; omega) (by omega) (by first | omega | (simp; done) | (simp; omega)) ?_; intro v3 w3 hown' hgrow _; have b3 := below_app2 hrow4 hgrow hbl4.size (Nat.le_refl _))
      have hown2 : w3.ownsRow w.heap.size 63 4 v3 (k + 1) ((o ++ [s]).flatMap encSwing) := by simpa using hown'
      obtain ⟨a3, c3, rfl⟩ := row_form hown2
      clear hgrow hown' hrow4
      go_wp2
      go_roundw
      case rel => exact ⟨k + 1, _, _, by omega, by go_num, rfl, HO2, hown2, ⟨_, _, rfl⟩, hbl4.trans b3⟩
      case measure => simp [intOf]; omega
    | true =>
      have e1 := CMS.out
      rw [hh] at e1
      simp only [if_true] at e1
      have HO2' : o ++ [termV t mv s] = termsTo t mv l (k + 1) := by rw [termsTo_succ HT.out, ← HO.out]
      rw [termV_yes hh] at HO2'
      generalize magV t s = x at *
      obtain ⟨y, hy⟩ : ∃ y, min 50 (s.pTerm - x + mv) = y := ⟨_, rfl⟩
      obtain ⟨z, hz⟩ : ∃ z, max (-50) y = z := ⟨_, rfl⟩
      rw [hy, hz] at HO2'
      have CY := Lib.hid (fun W => leastF 50 (s.pTerm - x + mv) y W hy)
      have CZ := Lib.hid (fun W => mostF (-50) y z W hz)
      have HO2 := Lib.hid HO2'
      have CN := Lib.hid e1
      have s1 : IntKind.i64.wrap (s.pTerm - x) = s.pTerm - x := IntWalk.i64_in _ (by omega)
      have s2 : wrap64 (s.pTerm - x) = s.pTerm - x := by unfold wrap64; omega
      have s3 : IntKind.i64.wrap (s.pTerm - x + mv) = s.pTerm - x + mv := IntWalk.i64_in _ (by omega)
      have s4 : wrap64 (s.pTerm - x + mv) = s.pTerm - x + mv := by unfold wrap64; omega
      clear e1 CMS hh HO2' hy hz
      go_wp2_with fail
      clear hW1 c0 c1 c2 c3 b0 b1 b2 b3
      refine CN.out.mono ?_
      rintro e w4 ⟨rfl, hb4⟩
      have hrow4 := row_below hrow1 hb4
      have hbl4 := N2.trans (hb4.mono N2.size)
      have bx4 := bx.below hb4
      have b0 := bx4.2 0 _ rfl
      have b1 := bx4.2 1 _ rfl
      have b2 := bx4.2 2 _ rfl
      have b3 := bx4.2 3 _ rfl
      have hfz := bx4.1.2
      go_wp2_with fail
      refine (CY.out _).mono ?_
      rintro e w5 ⟨rfl, hw5⟩
      obtain rfl : w4 = w5 := hw5.symm
      go_wp2_with fail
      refine (CZ.out _).mono ?_
      rintro e w6 ⟨rfl, hw6⟩
      obtain rfl : w4 = w6 := hw6.symm
      obtain ⟨W6, hW6⟩ : ∃ W6, w4.setCell ⟨wr.heap.size, 3, none⟩ (.int .i64 z) = W6 := ⟨_, rfl⟩
      have hbl6 : Below w.heap.size w W6 := hW6 ▸ hbl4.setCell hsz _
      have bx6 : Bx W6 wr.heap.size [.int .i64 s.pStation, .int .i64 s.pFar, .int .i64 s.pWidth, .int .i64 z] := hW6 ▸ bx4.set 3 (by simp) _
      have hrow6 : W6.ownsRow w.heap.size 63 4 (.slice oa k oc) k (o.flatMap encSwing) := hW6 ▸ ownsRow_setOtherW hrow4 (fun g hg => by have := hrb g hg; show wr.heap.size ≠ g; omega) _
      have e0 := bx6.2 0 _ rfl
      have e1 := bx6.2 1 _ rfl
      have e2 := bx6.2 2 _ rfl
      have e3 := bx6.2 3 _ rfl
      have hsz6 := hbl6.size
      have HSRC := Lib.hid (srcK_box (Bx.new W6 (encSwing (⟨s.pStation, s.pFar, s.pWidth, z⟩ : GSwing)) 63) (oneCellW (⟨s.pStation, s.pFar, s.pWidth, z⟩ : GSwing)))
      go_wp2_with (at_builtin; refine wpList_append_srcK _ rfl _ _ 52 rfl w.heap.size 63 ti (.agg #[.int .i64 0, .int .i64 0, .int .i64 0, .int .i64 0]) 4 32 Try.underlying52 hi hz0 hz1 hz2 rfl (by decide) _ k (o.flatMap encSwing) rfl (hrow6.alloc _) _ 1 (encSwing (⟨s.pStation, s.pFar, s.pWidth, z⟩ : GSwing)) rfl HSRC.out (by unfold maxLen; omega) (by omega) (by first | omega | (simp; done) | (simp; omega)) ?_; intro v3 w3 hown' hgrow _; have b3 := below_app2 hrow6 hgrow hbl6.size (Nat.le_refl _))
      have hown2 : w3.ownsRow w.heap.size 63 4 v3 (k + 1) ((o ++ [(⟨s.pStation, s.pFar, s.pWidth, z⟩ : GSwing)]).flatMap encSwing) := by simpa using hown'
      obtain ⟨a3, c3, rfl⟩ := row_form hown2
      clear hgrow hown' hrow6
      go_wp2
      go_roundw
      case rel => exact ⟨k + 1, _, _, by omega, by go_num, rfl, HO2, hown2, ⟨_, _, rfl⟩, hbl6.trans b3⟩
      case measure => simp [intOf]; omega
end Go.Proofs.Ytdiedfpfhbdamaa
