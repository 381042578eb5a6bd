/- Amplitudes: the program's new terms. -/
import Derived.Test.YtdiedfpfhbdamaaAnE
import Derived.BigQuiet
import Derived.IntWalk
import Derived.Lib.MinMax
import Derived.StillTailTactics
namespace Go.Proofs.Ytdiedfpfhbdamaa
open Go.ChangeShapes Go.WideShapes Go.ChangeAt Go.RowKit Go.ChangeMaps Go.Sort
set_option linter.unusedSimpArgs false
set_option linter.unusedVariables false
set_option linter.unusedSimpArgs false
set_option linter.unusedVariables false

theorem resV_at {t : List GTableRow} {l : List GSwing} {k : Nat} {s : GSwing} (h : l[k]? = some s) (e : hasM t s = true) : (resV t l)[(magsV t (l.take k)).length]? = some (magV t s - medV t l) := by
  have hk := (List.getElem?_eq_some_iff.1 h).1
  have e1 : magsV t l = magsV t (l.take k) ++ magV t s :: magsV t (l.drop (k + 1)) := by
    have e2 : l = l.take k ++ s :: l.drop (k + 1) := by
      rw [← (List.getElem?_eq_some_iff.1 h).2, ← List.drop_eq_getElem_cons hk, List.take_append_drop]
    have e3 : ∀ a b : List GSwing, magsV t (a ++ b) = magsV t a ++ magsV t b := fun a b => by unfold magsV; rw [List.filter_append, List.map_append]
    have e4 : ∀ b : List GSwing, magsV t (s :: b) = magV t s :: magsV t b := fun b => by unfold magsV; rw [List.filter_cons_of_pos (by exact e), List.map_cons]
    conv => lhs; rw [e2]
    rw [e3, e4]
  unfold resV
  rw [List.getElem?_map, e1, List.getElem?_append_right (Nat.le_refl _), Nat.sub_self]
  rfl
theorem resV_len (t : List GTableRow) (l : List GSwing) : (resV t l).length = (magsV t l).length := by unfold resV; rw [List.length_map]
theorem termsTo_len {t : List GTableRow} {m : Int} {l : List GSwing} {k : Nat} (h : k ≤ l.length) : (termsTo t m l k).length = k := by unfold termsTo; rw [List.length_map, List.length_take]; omega
def mixT (t : List GTableRow) (m : Int) (l : List GSwing) (k : Nat) : List GSwing := termsTo t m l k ++ l.drop k
theorem mixT_zero (t : List GTableRow) (m : Int) (l : List GSwing) : mixT t m l 0 = l := by unfold mixT termsTo; simp
theorem mixT_all (t : List GTableRow) (l : List GSwing) : mixT t (medV t l) l l.length = termsV t l := by unfold mixT; rw [termsTo_all, List.drop_length, List.append_nil]
theorem mixT_get {t : List GTableRow} {m : Int} {l : List GSwing} {k : Nat} {s : GSwing} (h : l[k]? = some s) : (mixT t m l k)[k]? = some s := by
  have hk := (List.getElem?_eq_some_iff.1 h).1
  unfold mixT
  rw [List.getElem?_append_right (by rw [termsTo_len (Nat.le_of_lt hk)]; exact Nat.le_refl _), termsTo_len (Nat.le_of_lt hk), Nat.sub_self, List.getElem?_drop, Nat.add_zero]
  exact h
theorem mixT_set {t : List GTableRow} {m : Int} {l : List GSwing} {k : Nat} {s : GSwing} (h : l[k]? = some s) : (mixT t m l k).set k (termV t m s) = mixT t m l (k + 1) := by
  have hk := (List.getElem?_eq_some_iff.1 h).1
  unfold mixT
  have ed : l.drop k = s :: l.drop (k + 1) := by rw [List.drop_eq_getElem_cons hk, (List.getElem?_eq_some_iff.1 h).2]
  rw [termsTo_succ h, ed, List.set_append_right _ _ (by rw [termsTo_len (Nat.le_of_lt hk)]; exact Nat.le_refl _), termsTo_len (Nat.le_of_lt hk), Nat.sub_self, List.set_cons_zero, List.append_assoc]
  rfl
theorem mixT_same {t : List GTableRow} {m : Int} {l : List GSwing} {k : Nat} {s : GSwing} (h : l[k]? = some s) (e : hasM t s = false) : mixT t m l k = mixT t m l (k + 1) := by
  rw [← mixT_set h, termV_no e]
  symm
  have g := mixT_get (t := t) (m := m) h
  apply List.ext_getElem?
  intro i
  rw [List.getElem?_set]
  split
  · rename_i q; subst q; rw [if_pos (List.getElem?_eq_some_iff.1 g).1, g]
  · rfl
theorem mixT_len {t : List GTableRow} {m : Int} {l : List GSwing} {k : Nat} (h : k ≤ l.length) : (mixT t m l k).length = l.length := by unfold mixT; rw [List.length_append, termsTo_len h, List.length_drop]; omega
set_option maxRecDepth 100000 in
set_option maxHeartbeats 4000000 in
theorem implNt (t : List GTableRow) (v : Value) (l : List GSwing) (v2 : Value) (w : World) (B : Nat) (h : TableRowL w B v t) (h2 : SwingL w B v2 l) (hB : B ≤ w.heap.size) (hn : szsTableRow t ≤ 1048576) (hn2 : szsSwing l ≤ 1048576) (hw : ∀ s ∈ t, wfTableRow s) (hw2 : ∀ s ∈ l, wfSwing s) :
    Calls Try.prog 44 #[v, v2] w fun e w' => ∃ v', e = .returned (.tuple #[v', .bool (okMd t l)]) ∧ SwingO w' w.heap.size w'.heap.size v' (swgMd t l) ∧ Below w.heap.size w w' := by
  have C1 := Lib.hid (implRs t v l v2 w B h h2 hB hn hn2 hw hw2)
  have hll := szsSwing_len l
  cases hk : okMd t l with
  | false =>
    rw [hk] at C1
    rw [swgMd_no hk]
    obtain ⟨ao, cap, rfl⟩ := h.form
    obtain ⟨ao2, cap2, rfl⟩ := h2.form
    clear h h2 hk
    go_enter Try.func44, Try.ntmps44
    go_wp2_with fail
    refine C1.out.mono ?_
    rintro e w1 ⟨v1, rfl, hown, hb⟩
    obtain ⟨a1, c1, rfl⟩ := hown.form
    go_wp2
    go_ret2
    exact ⟨_, rfl, ownK_empty encSwing_len (by omega) _ 63 hb.size, hb.alloc hb.size _⟩
  | true =>
  rw [hk, resMd_yes hk] at C1
  rw [swgMd_yes hk]
  obtain ⟨hok, hos, hp⟩ := okMd_yes hk
  have hmb := medV_bd hok hos hp
  have hgt : goodTb t = true := goodTb_mk hok
  have CC := Lib.hid (fun W (q : Below w.heap.size w W) => cloneSwing l v2 W W.heap.size ((h2.below (q.mono hB)).mono (Nat.le_trans hB q.size)) (Nat.le_refl _) (by omega))
  have CM := Lib.hid (fun s (W : World) (q : Below w.heap.size w W) (hs : okSw s) => by
    have := implMg t v s (aggW s) W B (h.below (q.mono hB)) rfl (Nat.le_trans hB q.size) hn (by simp [sz1Swing]) hw (okSw_wf hs)
    rw [okMg_ok hs, hgt, Bool.true_and] at this
    exact this)
  have hrl := resV_len t l
  have hml := magsV_len t l
  have hl10 := hos.2
  have HAT : Hid (∀ (k : Nat) (s : GSwing), l[k]? = some s → hasM t s = true → (resV t l)[(magsV t (l.take k)).length]? = some (magV t s - medV t l)) := Lib.hid (fun k s h e => resV_at h e)
  have HALL := Lib.hid (mixT_all t l)
  have hr0 : 0 < (resV t l).length := by omega
  have hr10 : (resV t l).length ≤ 10 := by omega
  generalize resV t l = rs at *
  generalize medV t l = mv at *
  have HRL := Lib.hid hrl
  have HOS := Lib.hid hos
  have HOK := Lib.hid hok
  have HGT := Lib.hid hgt
  obtain ⟨ao, cap, rfl⟩ := h.form
  obtain ⟨ao2, cap2, rfl, hcap2, hmax2, -, hc2⟩ := h2
  have HC := Lib.hid hc2
  clear h hc2 hok hos hw hw2 hn hn2 hk hp hgt hrl hml
  go_enter Try.func44, Try.ntmps44
  go_wp2_with fail
  refine C1.out.mono ?_
  rintro e w1 ⟨v1, rfl, hown, N1⟩
  obtain ⟨a1, cp1, rfl, hcp1, hcx1, -, hcl⟩ := hown.lst
  obtain ⟨x0, hx0⟩ := get_of_lt hr0
  obtain ⟨rb, ro, rfl, hrb, -⟩ := hcl 0 x0 hx0
  have HRC : Hid (∀ (i : Nat) (x : Int), rs[i]? = some x → w1.cell? ⟨rb, ro + i, none⟩ = some (.int .i64 x)) := Lib.hid (fun i x hx => by
    obtain ⟨b, o, e, _, hc⟩ := hcl i x hx
    simp only [Option.some.injEq, Addr.mk.injEq, and_true] at e
    obtain ⟨rfl, rfl⟩ := e
    exact hc)
  clear hcl hown hx0
  unfold maxLen at hcx1
  go_wp2_with fail
  refine (CC.out _ N1).mono ?_
  rintro e w2 ⟨v8, rfl, hown8, hb2⟩
  obtain ⟨a8, c8, rfl⟩ := hown8.form
  have HRC0 : Hid (∀ (i : Nat) (x : Int), rs[0 + i]? = some x → w1.cell? ⟨rb, ro + i, none⟩ = some (.int .i64 x)) := Lib.hid (fun i x hx => HRC.out i x (by rwa [Nat.zero_add] at hx))
  have HJ0 : Hid (0 = (magsV t (l.take 0)).length ∧ 0 + rs.length = rs.length) := Lib.hid ⟨rfl, Nat.zero_add _⟩
  have hown0 : SwingO w2 w1.heap.size w2.heap.size (.slice a8 l.length c8) (mixT t mv l 0) := by rw [mixT_zero]; exact hown8
  clear hown8 HRC CC
  go_wp2
  go_loopw [6, 9, 10, 11, 12, 26] (fun rv _ _ _ _ i wr => ∃ (k j n cp ro : Nat), k ≤ l.length ∧ i = .int .i64 k ∧ rv = .slice (some ⟨rb, ro, none⟩) n cp ∧ n ≤ cp ∧ cp ≤ 9223372036854775807 ∧ Hid (j = (magsV t (l.take k)).length ∧ j + n = rs.length) ∧ Hid (∀ (i : Nat) (x : Int), rs[j + i]? = some x → w1.cell? ⟨rb, ro + i, none⟩ = some (.int .i64 x)) ∧ SwingO wr w1.heap.size w2.heap.size (.slice a8 l.length c8) (mixT t mv l k) ∧ w2.heap.size ≤ wr.heap.size ∧ Below w1.heap.size w1 wr) (fun _ _ _ _ _ i _ => l.length - (intOf i).toNat)
  case atStart => exact ⟨0, 0, rs.length, cp1, ro, Nat.zero_le _, rfl, rfl, hcp1, hcx1, HJ0, HRC0, hown0, Nat.le_refl _, hb2⟩
  case round =>
    obtain ⟨k, j, n, cp, ro, hk, rfl, rfl, hncp, hcpm, HJ, HRC, hown, hz2, hb1⟩ := hrel
    have hbl := N1.trans (hb1.mono N1.size)
    have hsz := hbl.size
    by_cases hlt : k < l.length
    case neg =>
      obtain rfl : k = l.length := by omega
      have HE := HALL
      go_wp2
      go_ret2
      exact ⟨_, rfl, by rw [← HE.out]; exact hown.mono N1.size hz2, hbl⟩
    obtain ⟨s, hs⟩ := get_of_lt hlt
    have hss := HOS.out.1.1 k s hlt hs
    obtain ⟨b, off, rfl, hbb, hcell⟩ := HC.out k s hs
    have c0 : wr.cell? ⟨b, off + k * 4, none⟩ = some (.int .i64 s.pStation) := cellOf hbl (by omega) (hcell 0 _ rfl)
    have c1 : wr.cell? ⟨b, off + k * 4 + 1, none⟩ = some (.int .i64 s.pFar) := cellOf hbl (by omega) (hcell 1 _ rfl)
    have c2 : wr.cell? ⟨b, off + k * 4 + 2, none⟩ = some (.int .i64 s.pWidth) := cellOf hbl (by omega) (hcell 2 _ rfl)
    have c3 : wr.cell? ⟨b, off + k * 4 + 3, none⟩ = some (.int .i64 s.pTerm) := cellOf hbl (by omega) (hcell 3 _ rfl)
    have hi0 : (0 : Int) ≤ (k : Int) := by omega
    have hi1 : (k : Int) < (l.length : Int) := by omega
    have hi2 : (l.length : Int) ≤ 10 := by omega
    obtain ⟨W1, hW1⟩ : ∃ W1, wr.alloc (objW s) = W1 := ⟨_, rfl⟩
    have A1 : Below wr.heap.size wr W1 := hW1 ▸ (Below.refl _ _).alloc (Nat.le_refl _) _
    have bx : Bx W1 wr.heap.size [.int .i64 s.pStation, .int .i64 s.pFar, .int .i64 s.pWidth, .int .i64 s.pTerm] := hW1 ▸ Bx.new wr [.int .i64 s.pStation, .int .i64 s.pFar, .int .i64 s.pWidth, .int .i64 s.pTerm] 63
    have N2 := hbl.trans (A1.mono hsz)
    have CMS := Lib.hid (CM.out s W1 N2 hss)
    have HT := Lib.hid hs
    have b0 := bx.2 0 _ rfl
    have b1 := bx.2 1 _ rfl
    have b2 := bx.2 2 _ rfl
    have b3 := bx.2 3 _ rfl
    have hown1 := hown.below (A1.mono hz2)
    have hb11 := hb1.trans (A1.mono hb1.size)
    have hz21 : w2.heap.size ≤ W1.heap.size := Nat.le_trans hz2 A1.size
    have hj10 : n ≤ 10 := by have := HJ.out.2; omega
    clear hcell hs hown
    cases hh : hasM t s with
    | false =>
      have CN := CMS.out
      rw [hh] at CN
      have hown2 : SwingO W1 w1.heap.size w2.heap.size (.slice a8 l.length c8) (mixT t mv l (k + 1)) := by rw [← mixT_same HT.out hh]; exact hown1
      have HJ2 : Hid (j = (magsV t (l.take (k + 1))).length ∧ j + n = rs.length) := Lib.hid (by rw [mags_no HT.out hh]; exact HJ.out)
      generalize numMg t s = nm at *
      have CN := Lib.hid CN
      clear CMS hh hss
      go_wp2_with fail
      clear hW1 c0 c1 c2 c3 b0 b1 b2 b3
      refine CN.out.mono ?_
      rintro e w4 ⟨rfl, hb4⟩
      have hown4 := hown2.below (hb4.mono hz21)
      have hb14 := hb11.trans (hb4.mono hb11.size)
      have hz4 := Nat.le_trans hz21 hb4.size
      go_wp2
      go_roundw
      case rel => exact ⟨k + 1, j, n, cp, ro, by omega, by go_num, rfl, hncp, hcpm, HJ2, HRC, hown4, hz4, hb14⟩
      case measure => simp [intOf]; omega
    | true =>
      have CN := CMS.out
      rw [hh] at CN
      have hat := HAT.out k s HT.out hh
      rw [← HJ.out.1] at hat
      have hjn : j < rs.length := (List.getElem?_eq_some_iff.1 hat).1
      have hmv := magV_bd HOK.out hss
      have hst := hss.2.2.2
      obtain ⟨r, hr⟩ : ∃ r, magV t s - mv = r := ⟨_, rfl⟩
      rw [hr] at hat
      have hn1 : 1 ≤ n := by have := HJ.out.2; omega
      have HRX := HRC.out 0 r (by rw [Nat.add_zero]; exact hat)
      rw [Nat.add_zero] at HRX
      have htv : termV t mv s = ⟨s.pStation, s.pFar, s.pWidth, max (-50) (min (s.pTerm - r) 50)⟩ := by
        rw [termV_yes hh, ← hr]
        congr 1
        congr 1
        rw [Int.min_comm]
        congr 1
        omega
      have HMS : Hid ((mixT t mv l k).set k ⟨s.pStation, s.pFar, s.pWidth, max (-50) (min (s.pTerm - r) 50)⟩ = mixT t mv l (k + 1)) := Lib.hid (by rw [← htv]; exact mixT_set HT.out)
      have HMG := Lib.hid (mixT_get (t := t) (m := mv) HT.out)
      have HJ2 : Hid (j + 1 = (magsV t (l.take (k + 1))).length ∧ j + 1 + (n - 1) = rs.length) := Lib.hid (by rw [mags_yes HT.out hh, List.length_append, ← HJ.out.1]; exact ⟨rfl, by have := HJ.out.2; omega⟩)
      have HRC2 : Hid (∀ (i : Nat) (x : Int), rs[j + 1 + i]? = some x → w1.cell? ⟨rb, ro + 1 + i, none⟩ = some (.int .i64 x)) := Lib.hid (fun i x hx => by have := HRC.out (1 + i) x (by rw [← Nat.add_assoc]; exact hx); rwa [← Nat.add_assoc] at this)
      have hr2 : -51 - 1250 ≤ r ∧ r ≤ 1250 + 51 := by omega
      have s1 : IntKind.i64.wrap (s.pTerm - r) = s.pTerm - r := IntWalk.i64_in _ (by omega)
      have s2 : wrap64 (s.pTerm - r) = s.pTerm - r := by unfold wrap64; omega
      obtain ⟨ht0, ht1⟩ := hst
      generalize numMg t s = nm at *
      have CN := Lib.hid CN
      clear CMS hh hss hat hr htv
      go_wp2_with fail
      clear hW1 c0 c1 c2 c3 b0 b1 b2 b3
      refine CN.out.mono ?_
      rintro e w4 ⟨rfl, hb4⟩
      have hown4 := hown1.below (hb4.mono hz21)
      have hb14 := hb11.trans (hb4.mono hb11.size)
      have hz4 := Nat.le_trans hz21 hb4.size
      have bx4 := bx.below hb4
      have b3 := bx4.2 3 _ rfl
      have HO4 := Lib.hid hown4
      obtain ⟨a9, c9, e9, -, -, -, hof⟩ := hown4
      simp only [Value.slice.injEq] at e9
      obtain ⟨rfl, -, rfl⟩ := e9
      obtain ⟨b8, o8, rfl, hb80, hb81, -, hcl8, hf8⟩ := hof k s HMG.out
      have q3 : w4.cell? ⟨b8, o8 + k * 4 + 3, none⟩ = some (.int .i64 s.pTerm) := hcl8 3 _ rfl
      have hf3 := hf8 (o8 + k * 4 + 3)
      have r0 := cellOf hb14 (cell_of_lt HRX) HRX
      have n0 : (0 : Int) < (n : Int) := by omega
      have n1 : 0 < n := by omega
      have HO8 := Lib.hid hof
      have q3a : (w4.drew).cell? ⟨b8, o8 + k * 4 + 3, none⟩ = some (.int .i64 s.pTerm) := q3
      have r0a : (w4.drew).cell? ⟨rb, ro, none⟩ = some (.int .i64 r) := r0
      have b3a : (w4.drew).cell? ⟨wr.heap.size, 3, none⟩ = some (.int .i64 s.pTerm) := b3
      clear hof hcl8 hf8 bx4 HRX
      go_wp2
      have q3b : ({ w4 with drawn := w4.drawn + 1 } : World).cell? ⟨b8, o8 + k * 4 + 3, none⟩ = some (.int .i64 s.pTerm) := q3
      have r0b : ({ w4 with drawn := w4.drawn + 1 } : World).cell? ⟨rb, ro, none⟩ = some (.int .i64 r) := r0
      have b3b : ({ w4 with drawn := w4.drawn + 1 } : World).cell? ⟨wr.heap.size, 3, none⟩ = some (.int .i64 s.pTerm) := b3
      go_still_tail 12, (by kernel_rfl)
      change wpList _ _ _ _ _ (w4.drewN 1)
      have q35 : (w4.drewN 1).cell? ⟨b8, o8 + k * 4 + 3, none⟩ = some (.int .i64 s.pTerm) := q3
      have hf35 : (w4.drewN 1).frozen? ⟨b8, o8 + k * 4 + 3, none⟩ = false := hf3
      have own5 := HO4.out.below (drewN_b (Below.refl w2.heap.size w4) 1)
      have hb15 := drewN_b hb14 1
      have hz5 : w2.heap.size ≤ (w4.drewN 1).heap.size := hz4
      clear q3 hf3 q3a r0a b3a q3b r0b b3b r0 b3 HO4 HO8 hb4 hb14 hz4
      generalize w4.drewN 1 = w5 at *
      obtain ⟨u, hu⟩ : ∃ u, max (-50) (min (s.pTerm - r) 50) = u := ⟨_, rfl⟩
      rw [hu] at HMS
      have own6 := OwnK.set encSwing_len own5 rfl HMG.out (m := 3) (y := ⟨s.pStation, s.pFar, s.pWidth, u⟩) (u := .int .i64 u) (by omega) rfl
      rw [HMS.out] at own6
      obtain ⟨W6, hW6⟩ : ∃ W6, w5.setCell ⟨b8, o8 + k * 4 + 3, none⟩ (.int .i64 u) = W6 := ⟨_, rfl⟩
      have hb16 : Below w1.heap.size w1 W6 := hW6 ▸ hb15.setCell hb80 _
      have hz6 : w2.heap.size ≤ W6.heap.size := hW6 ▸ (by simpa using hz5)
      rw [hW6] at own6
      clear own5 hb15 hz5 HMG HMS
      rw [hu]
      have k0 : (1 : Int) ≤ (n : Int) := by omega
      have k1 : (n : Int) ≤ (cp : Int) := by omega
      have k2 : (1 : Int) ≤ (cp : Int) := by omega
      have k3 : 1 ≤ cp := by omega
      by_cases hcp : cp = 1
      · obtain rfl : n = 1 := by omega
        subst hcp
        have HRC3 : Hid (∀ (i : Nat) (x : Int), rs[j + 1 + i]? = some x → w1.cell? ⟨rb, ro + i, none⟩ = some (.int .i64 x)) := Lib.hid (fun i x hx => by have := (List.getElem?_eq_some_iff.1 hx).1; have := HJ.out.2; omega)
        go_wp2
        go_roundw
        case rel => exact ⟨k + 1, j + 1, 0, 0, ro, by omega, by go_num, rfl, Nat.le_refl _, by omega, HJ2, HRC3, own6, hz6, hb16⟩
        case measure => simp [intOf]; omega
      · have hcp2 : ¬ 1 = cp := fun q => hcp q.symm
        go_wp2
        go_roundw
        case rel => exact ⟨k + 1, j + 1, n - 1, cp - 1, ro + 1, by omega, by go_num, rfl, by omega, by omega, HJ2, HRC2, own6, hz6, hb16⟩
        case measure => simp [intOf]; omega
end Go.Proofs.Ytdiedfpfhbdamaa
