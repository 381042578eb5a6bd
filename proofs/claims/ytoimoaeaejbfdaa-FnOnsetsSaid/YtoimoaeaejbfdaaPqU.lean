/- Picks: the current ones, by the specification. -/
import Derived.Test.YtoimoaeaejbfdaaPqT
import Derived.Test.YtoimoaeaejbfdaaIns
import Derived.Test.YtoimoaeaejbfdaaAcc
import Derived.Test.YtoimoaeaejbfdaaQTail
import Derived.IntWalk
namespace Go.Proofs.Ytoimoaeaejbfdaa
open Go.ChangeShapes Go.WideShapes Go.ChangeAt Go.RowKit Go.ChangeMaps Go.Sort Go.Shelf
set_option linter.unusedSimpArgs false
set_option linter.unusedVariables false

theorem cell_same {w w' : World} {g : Nat} (h : w'.heap[g]? = w.heap[g]?) (o : Nat) : w'.cell? ⟨g, o, none⟩ = w.cell? ⟨g, o, none⟩ := by
  unfold World.cell?; simp only [h]
theorem flat_take {α : Type} {en : α → List Value} {K : Nat} (hK : ∀ x, (en x).length = K) : ∀ (l : List α) (k : Nat), ((l.flatMap en).take (k * K)) = (l.take k).flatMap en
  | [], k => by simp
  | a :: l, 0 => by simp
  | a :: l, k + 1 => by
    rw [List.flatMap_cons, List.take_succ_cons, List.flatMap_cons, Nat.add_mul, Nat.one_mul, Nat.add_comm, List.take_append, hK, Nat.add_sub_cancel_left, List.take_of_length_le (by rw [hK]; omega), flat_take hK l k]
theorem flat_drop {α : Type} {en : α → List Value} {K : Nat} (hK : ∀ x, (en x).length = K) : ∀ (l : List α) (k : Nat), ((l.flatMap en).drop (k * K)) = (l.drop k).flatMap en
  | [], k => by simp
  | a :: l, 0 => by simp
  | a :: l, k + 1 => by
    rw [List.flatMap_cons, List.drop_succ_cons, Nat.add_mul, Nat.one_mul, Nat.add_comm, List.drop_append, hK, Nat.add_sub_cancel_left, List.drop_of_length_le (by rw [hK]; omega), List.nil_append, flat_drop hK l k]
set_option maxRecDepth 100000 in
set_option maxHeartbeats 8000000 in
theorem specCurP (xs : List GPick) (v : Value) (w : World) (B : Nat) (h : PickL w B v xs) (hB : B ≤ w.heap.size) (hn : szsPick xs ≤ 1048576) (hw : ∀ s ∈ xs, wfPick s) :
    Calls Try.prog 29 #[v] w fun e w' => ∃ v', e = .returned (.tuple #[v', .bool (goodP xs)]) ∧ Own (Value.int .i64) w' w.heap.size w'.heap.size v' (resCur xs) ∧ Below w.heap.size w w' := by
  have hl := Nat.le_trans (szsPick_len xs) hn
  have N1 := (Below.refl w.heap.size w).alloc (Nat.le_refl _) (.cells #[] 3)
  have hrow0 := row_empty w (base := w.heap.size) 3 1 (Nat.le_refl _)
  have h1 := h.below (N1.mono hB)
  cases hg : goodP xs with
  | false =>
    have C := Lib.hid (specGoodP xs v false _ B h1 (Nat.le_trans hB N1.size) hl hg)
    rw [resCur_no hg]
    clear hg
    obtain ⟨ao, cap, rfl⟩ := h.form
    go_enter Try.func29, Try.ntmps29
    go_wp2_with fail
    refine C.out.mono ?_
    rintro e w1 ⟨rfl, hb⟩
    have C1 := N1.trans (hb.mono N1.size)
    have hr1 := row_below hrow0 hb
    go_wp2
    go_ret2
    exact ⟨_, rfl, Own.of_row (xs := ([] : List Int)) hr1, C1⟩
  | true =>
  have C := Lib.hid (specGoodP xs v true _ B h1 (Nat.le_trans hB N1.size) hl hg)
  have HGL := Lib.hid (goodP_yes hg)
  have hl12 := (goodP_yes hg).1
  generalize hres : resCur xs = res
  have HRES := Lib.hid (hres.symm.trans (resCur_yes hg))
  clear hres
  have HLL := Lib.hid h
  clear h1 hg
  obtain ⟨ao, cap, rfl, hcap, hmax, hnn, hc⟩ := h
  unfold maxLen at hmax
  have HC := Lib.hid hc
  clear hc hnn
  obtain ⟨ti, hi, hz0, hz1, hz2⟩ := info_parts info_Pick
  obtain ⟨tj, hj, hy0, hy1, hy2⟩ := info_parts infoInt
  go_enter Try.func29, Try.ntmps29
  go_wp2_with fail
  refine C.out.mono ?_
  rintro e w1 ⟨rfl, hb⟩
  have C1 := N1.trans (hb.mono N1.size)
  have hr1 := row_below hrow0 hb
  have z1 : w.heap.size + 1 ≤ w1.heap.size := by have := hb.size; simpa using this
  clear hb hrow0 N1 C
  have hrO := rowK_empty w1 (base := w1.heap.size) 43 7 (Nat.le_refl _)
  have BO : Below w1.heap.size w1 (w1.alloc (.cells #[] 43)) := (Below.refl _ _).alloc (Nat.le_refl _) _
  go_wp2
  go_loopw [5, 6] (fun o i wr => ∃ (k c : Nat) (ol : List GPick) (g cap : Nat), k ≤ xs.length ∧ c ≤ k ∧ i = .int .i64 k ∧ o = .slice (some ⟨g, 0, none⟩) c cap ∧ Hid (soFar xs k ol) ∧ Hid (ol.length = c) ∧ wr.ownsRow w1.heap.size 43 7 (.slice (some ⟨g, 0, none⟩) c cap) c (ol.flatMap encPick) ∧ c ≤ cap ∧ cap ≤ maxLen ∧ Below w1.heap.size w1 wr)
    (fun _ i _ => xs.length - (intOf i).toNat)
  case atStart => exact ⟨0, 0, [], _, _, Nat.zero_le _, Nat.le_refl _, rfl, rfl, Lib.hid (soFar_zero xs), Lib.hid rfl, hrO, Nat.le_refl _, Nat.zero_le _, BO⟩
  case round =>
    obtain ⟨k, c, ol, g, ocap, hk, hck, rfl, rfl, HSF, HOL, hrow, hoc, hom, hbl⟩ := hrel
    have hsz := hbl.size
    unfold maxLen at hom
    by_cases hlt : k < xs.length
    case neg =>
      obtain rfl : k = xs.length := by omega
      have hol : ol = ordC xs := ordC_uniq HGL.out (by have := HSF.out.1; rwa [curK_all] at this) HSF.out.2
      have HE : Hid (res = ol.map fun s => s.pId) := Lib.hid (by rw [HRES.out, hol])
      have OW := Lib.hid (OwnK.of_row encPick_len (by omega) hrow)
      have hg := hrow.lt g rfl
      have hrO2 := row_below hr1 hbl
      have CW : Below w.heap.size w wr := C1.trans (hbl.mono (by omega))
      clear hol HRES HSF hlt hr1 hrow
      obtain ⟨hg1, hg2⟩ := hg
      obtain ⟨wo, rfl⟩ : ∃ wo : World, wo = wr := ⟨_, rfl⟩
      go_wp2
      go_loopw [4, 8] (fun o i wr => ∃ (q : Nat) (v : Value) (il : List Int), q ≤ c ∧ i = .int .i64 q ∧ o = v ∧ Hid (il = (ol.take q).map fun s => s.pId) ∧ wr.ownsRow w.heap.size 3 1 v q (il.map (Value.int .i64)) ∧ (∃ ao cap, v = .slice ao q cap) ∧ (∀ b, v.ownBlock = some b → b ≠ g) ∧ wr.heap[g]? = wo.heap[g]? ∧ wo.heap.size ≤ wr.heap.size ∧ Below w.heap.size w wr)
        (fun _ i _ => c - (intOf i).toNat)
      case atStart => exact ⟨0, _, [], Nat.zero_le _, rfl, rfl, Lib.hid (by simp), hrO2, ⟨_, _, rfl⟩, (fun b hb => by have h9 : w.heap.size = b := Option.some.inj hb; omega), rfl, Nat.le_refl _, CW⟩
      case round =>
        obtain ⟨q, _, il, hq, rfl, rfl, HIL, hrow2, ⟨oa, oc, rfl⟩, hne, hgk, hsz2, hbl2⟩ := hrel
        by_cases hlt2 : q < c
        case neg =>
          obtain rfl : q = c := by omega
          have E3 : il = res := by rw [HIL.out, HE.out, List.take_of_length_le (by rw [HOL.out]; omega)]
          subst E3
          go_wp2
          go_ret2
          exact ⟨_, rfl, Own.of_row hrow2, hbl2⟩
        have hq1 : (q : Int) < (c : Int) := by omega
        have hq0 : (0 : Int) ≤ (q : Int) := by omega
        obtain ⟨t, ht⟩ := get_of_lt (l := ol) (k := q) (by rw [HOL.out]; omega)
        obtain ⟨-, -, -, tc, -⟩ := OwnK.at OW.out ht
        have t0 : wr.cell? ⟨g, q * 7, none⟩ = some (.int .i64 t.pId) := (cell_same hgk _).trans (by have := tc 0 _ rfl; simpa using this)
        have HIL2 : Hid (il ++ [t.pId] = (ol.take (q + 1)).map fun s => s.pId) := Lib.hid (by rw [take_snoc ht, List.map_append, ← HIL.out]; rfl)
        clear ht tc HIL
        go_wp2_with (at_builtin; refine wpList_append_srcK _ rfl _ _ 30 rfl (w.heap.size) 3 tj (.int .i64 0) 1 8 Try.underlying30 hj hy0 hy1 hy2 rfl (by decide) _ q (il.map (Value.int .i64)) rfl (hrow2.alloc _) _ 1 [.int .i64 t.pId] rfl ⟨⟨wr.heap.size, 0, none⟩, 1, rfl, by simp, cell_one_new _ _ _, by simp [Value.oneCell']⟩ (by unfold maxLen; omega) (by omega) (by first | omega | (simp; done) | (simp; omega)) ?_; intro v' w3 hown' hgrow hat)
        have b3 := below_app2 hrow2 hgrow (by have := hbl2.size; omega) (Nat.le_refl _)
        have hrow3 : w3.ownsRow w.heap.size 3 1 v' (q + 1) ((il ++ [t.pId]).map (Value.int .i64)) := by simpa using hown'
        have hs3 := hgrow.size
        have hs4 : wr.heap.size + 1 ≤ w3.heap.size := by simpa using hs3
        have hgk3 : w3.heap[g]? = wo.heap[g]? := by
          have q1 := hgrow.block g (by simp; omega) (fun e => hne g e.symm rfl)
          have q2 := ((Below.refl wr.heap.size wr).alloc (Nat.le_refl _) (.cells #[.int .i64 t.pId] 3)).block g (by omega)
          exact (q1.trans q2).trans hgk
        have hne3 : ∀ b, v'.ownBlock = some b → b ≠ g := by
          intro b hb
          rcases hat with e | e
          · exact hne b (e ▸ hb)
          · rw [e] at hb
            have h9 := Option.some.inj hb
            simp at h9
            omega
        obtain ⟨a3, c3, rfl⟩ := row_form hrow3
        clear hown' hgrow hat
        go_wp2
        go_roundw
        case rel => exact ⟨q + 1, _, _, by omega, by go_num, rfl, HIL2, hrow3, ⟨_, _, rfl⟩, hne3, hgk3, by omega, hbl2.trans b3⟩
        case measure => simp [intOf]; omega
    obtain ⟨s, hs⟩ := get_of_lt hlt
    obtain ⟨b, off, rfl, hb, hcell⟩ := HC.out k s hs
    have CW : Below w.heap.size w wr := C1.trans (hbl.mono (by omega))
    have zw := CW.size
    have c0 : wr.cell? ⟨b, off + k * 7, none⟩ = some (.int .i64 s.pId) := cellOf CW (by omega) (hcell 0 _ rfl)
    have c1 : wr.cell? ⟨b, off + k * 7 + 1, none⟩ = some (.int .i64 s.pStation) := cellOf CW (by omega) (hcell 1 _ rfl)
    have c2 : wr.cell? ⟨b, off + k * 7 + 2, none⟩ = some (.int .i64 s.pWave) := cellOf CW (by omega) (hcell 2 _ rfl)
    have c3 : wr.cell? ⟨b, off + k * 7 + 3, none⟩ = some (.int .i64 s.pTick) := cellOf CW (by omega) (hcell 3 _ rfl)
    have c4 : wr.cell? ⟨b, off + k * 7 + 4, none⟩ = some (.int .i64 s.pError) := cellOf CW (by omega) (hcell 4 _ rfl)
    have c5 : wr.cell? ⟨b, off + k * 7 + 5, none⟩ = some (.int .i64 s.pBy) := cellOf CW (by omega) (hcell 5 _ rfl)
    have c6 : wr.cell? ⟨b, off + k * 7 + 6, none⟩ = some (.int .i64 s.pAfter) := cellOf CW (by omega) (hcell 6 _ rfl)
    have HS := Lib.hid hs
    have HLw := Lib.hid (HLL.out.below (CW.mono hB))
    have hk0 : (0 : Int) ≤ (k : Int) := by omega
    have hk1 : (k : Int) < (xs.length : Int) := by omega
    clear hs hcell
    obtain ⟨wo, rfl⟩ : ∃ wo : World, wo = wr := ⟨_, rfl⟩
    cases hcu : curB xs s.pId with
    | false =>
      have HSF2 := Lib.hid (soFar_no HSF.out HS.out hcu)
      have cf := Lib.hid (specCurBB xs _ s.pId false _ B HLw.out hcu hl)
      clear hcu
      go_wp2_with fail
      refine cf.out.mono ?_
      rintro e w4 ⟨rfl, hb4⟩
      have hrow4 := row_below hrow hb4
      go_wp2
      go_roundw
      case rel => exact ⟨k + 1, c, ol, g, ocap, by omega, by omega, by go_num, rfl, HSF2, HOL, hrow4, hoc, hom, hbl.trans (hb4.mono hsz)⟩
      case measure => simp [intOf]; omega
    | true =>
    have HCU := Lib.hid hcu
    have cf := Lib.hid (specCurBB xs _ s.pId true _ B HLw.out hcu hl)
    clear hcu
    go_wp2_with fail
    refine cf.out.mono ?_
    rintro e w4 ⟨rfl, hb4⟩
    replace hrow := row_below hrow hb4
    replace hbl := hbl.trans (hb4.mono hsz)
    replace c0 := cellOf hb4 (cell_of_lt c0) c0
    replace c1 := cellOf hb4 (cell_of_lt c1) c1
    replace c2 := cellOf hb4 (cell_of_lt c2) c2
    replace c3 := cellOf hb4 (cell_of_lt c3) c3
    replace c4 := cellOf hb4 (cell_of_lt c4) c4
    replace c5 := cellOf hb4 (cell_of_lt c5) c5
    replace c6 := cellOf hb4 (cell_of_lt c6) c6
    clear hsz
    have hsz := hbl.size
    clear hb4 cf HLw CW zw
    obtain ⟨wo2, rfl⟩ : ∃ wo2 : World, wo2 = w4 := ⟨_, rfl⟩
    have hxl : xs.length ≤ 12 := hl12
    go_wp2
    go_loopw [7] (fun j wr => ∃ m : Nat, m ≤ c ∧ j = .int .i64 m ∧ Hid (∀ j t, ol[j]? = some t → m ≤ j → s.pTick < t.pTick) ∧ Below wo2.heap.size wo2 wr)
      (fun j _ => (intOf j).toNat)
    case atStart => exact ⟨c, Nat.le_refl _, rfl, Lib.hid (fun j t hj hm => by have := (List.getElem?_eq_some_iff.1 hj).1; rw [HOL.out] at this; omega), Below.refl _ _⟩
    case round =>
      obtain ⟨m, hm, rfl, HM, hbi⟩ := hrel
      have hszi := hbi.size
      have hrow2 := row_below hrow hbi
      have d0 := cellOf hbi (cell_of_lt c0) c0
      have d1 := cellOf hbi (cell_of_lt c1) c1
      have d2 := cellOf hbi (cell_of_lt c2) c2
      have d3 := cellOf hbi (cell_of_lt c3) c3
      have d4 := cellOf hbi (cell_of_lt c4) c4
      have d5 := cellOf hbi (cell_of_lt c5) c5
      have d6 := cellOf hbi (cell_of_lt c6) c6
      clear c0 c1 c2 c3 c4 c5 c6
      by_cases hm0 : m = 0
      case pos =>
        have g1 : ¬ (0 : Int) < (m : Int) := by omega
        have g2 : decide ((0 : Int) < (m : Int)) = false := by simpa using hm0
        have g3 : decide (0 < m) = false := by simpa using hm0
        have g4 : ¬ 0 < m := by omega
        have HL : Hid (∀ t, ol[m - 1]? = some t → 0 < m → t.pTick ≤ s.pTick) := Lib.hid (fun t _ h => by omega)
        clear hm0
        go_wp2
        refine wp_region_quiet_below (by kernel_rfl) (by kernel_rfl) ?_
        repeat (go_big_quiet_step (fail))
        refine wpQuiet_nil ?_
        intro _ hw'
        obtain ⟨⟨dq, osq⟩, hw''⟩ := hw'
        subst hw''
        have hb4 := below_regrown (wr) dq osq
        generalize grow (redrawn (wr) dq) osq = w4 at *
        clear g1 g2 g3 g4
        have hbx := hbi.trans (hb4.mono hszi)
        by_cases hcapm : m = ocap
        case pos =>
          have hkm : c = m := by omega
          subst hkm
          subst hcapm
          have hd9 : ol.drop c = [] := List.drop_of_length_le (by rw [HOL.out]; omega)
          have HSF2 := Lib.hid (soFar_succ HGL.out HSF.out HS.out HCU.out HM.out HL.out (by rw [HOL.out]; exact hm))
          have hx4 := hbx.size
          have hm0 : (0 : Int) ≤ (c : Int) := by omega
          have hm1 : (c : Int) ≤ (c : Int) := by omega
          have hcm5 : (c : Int) ≤ (c : Int) := by omega
          have hcm6 : c ≤ c := by omega
          have hrow4 := row_below hrow2 hb4
          have e0 := cellOf hb4 (cell_of_lt d0) d0
          have e1 := cellOf hb4 (cell_of_lt d1) d1
          have e2 := cellOf hb4 (cell_of_lt d2) d2
          have e3 := cellOf hb4 (cell_of_lt d3) d3
          have e4 := cellOf hb4 (cell_of_lt d4) d4
          have e5 := cellOf hb4 (cell_of_lt d5) d5
          have e6 := cellOf hb4 (cell_of_lt d6) d6
          have KA : Below w4.heap.size w4 (w4.alloc (.cells #[] 43)).drew := ((Below.refl _ _).alloc (Nat.le_refl _) _).drew
          have KA1 : Below w4.heap.size w4 ((w4.alloc (.cells #[] 43)).alloc (.cells #[.int .i64 s.pId, .int .i64 s.pStation, .int .i64 s.pWave, .int .i64 s.pTick, .int .i64 s.pError, .int .i64 s.pBy, .int .i64 s.pAfter] 43)).drew := (((Below.refl _ _).alloc (Nat.le_refl _) _).alloc (by first | omega | (simp; done) | (simp; omega)) _).drew
          have KB : Below w4.heap.size w4 (w4.alloc (.cells #[.int .i64 s.pId, .int .i64 s.pStation, .int .i64 s.pWave, .int .i64 s.pTick, .int .i64 s.pError, .int .i64 s.pBy, .int .i64 s.pAfter] 43)).drew := ((Below.refl _ _).alloc (Nat.le_refl _) _).drew
          have KB0 : Below w4.heap.size w4 ((w4.alloc (.cells #[.int .i64 s.pId, .int .i64 s.pStation, .int .i64 s.pWave, .int .i64 s.pTick, .int .i64 s.pError, .int .i64 s.pBy, .int .i64 s.pAfter] 43)).alloc (.cells #[] 43)).drew := (((Below.refl _ _).alloc (Nat.le_refl _) _).alloc (by first | omega | (simp; done) | (simp; omega)) _).drew
          have rA : (w4.alloc (.cells #[] 43)).drew.ownsRow w4.heap.size 43 7 (.slice (some ⟨w4.heap.size, 0, none⟩) 0 0) 0 [] := rowK_empty w4 _ _ (Nat.le_refl _)
          have rA1 : ((w4.alloc (.cells #[] 43)).alloc (.cells #[.int .i64 s.pId, .int .i64 s.pStation, .int .i64 s.pWave, .int .i64 s.pTick, .int .i64 s.pError, .int .i64 s.pBy, .int .i64 s.pAfter] 43)).drew.ownsRow w4.heap.size 43 7 (.slice (some ⟨w4.heap.size, 0, none⟩) 0 0) 0 [] := (rowK_empty w4 _ _ (Nat.le_refl _)).alloc _
          have rB0 : ((w4.alloc (.cells #[.int .i64 s.pId, .int .i64 s.pStation, .int .i64 s.pWave, .int .i64 s.pTick, .int .i64 s.pError, .int .i64 s.pBy, .int .i64 s.pAfter] 43)).alloc (.cells #[] 43)).drew.ownsRow w4.heap.size 43 7 (.slice (some ⟨w4.heap.size + 1, 0, none⟩) 0 0) 0 [] := by
            have h9 : ((w4.alloc (.cells #[.int .i64 s.pId, .int .i64 s.pStation, .int .i64 s.pWave, .int .i64 s.pTick, .int .i64 s.pError, .int .i64 s.pBy, .int .i64 s.pAfter] 43)).alloc (.cells #[] 43)).ownsRow w4.heap.size 43 7 (.slice (some ⟨w4.heap.size + 1, 0, none⟩) 0 0) 0 [] := by
              have := rowK_empty (w4.alloc (.cells #[.int .i64 s.pId, .int .i64 s.pStation, .int .i64 s.pWave, .int .i64 s.pTick, .int .i64 s.pError, .int .i64 s.pBy, .int .i64 s.pAfter] 43)) (base := w4.heap.size) 43 7 (by first | omega | (simp; done) | (simp; omega))
              simpa using this
            exact h9
          have bA1 : Bx ((w4.alloc (.cells #[] 43)).alloc (.cells #[.int .i64 s.pId, .int .i64 s.pStation, .int .i64 s.pWave, .int .i64 s.pTick, .int .i64 s.pError, .int .i64 s.pBy, .int .i64 s.pAfter] 43)).drew (w4.heap.size + 1) (encPick s) := Bx.new1 w4 (.cells #[] 43) (encPick s) 43
          have bB0 : Bx ((w4.alloc (.cells #[.int .i64 s.pId, .int .i64 s.pStation, .int .i64 s.pWave, .int .i64 s.pTick, .int .i64 s.pError, .int .i64 s.pBy, .int .i64 s.pAfter] 43)).alloc (.cells #[] 43)).drew w4.heap.size (encPick s) := (Bx.new w4 (encPick s) 43).alloc _
          have q1 : SrcK w4 7 (.slice (some ⟨g, 0, none⟩) c c) c ((ol.take c).flatMap encPick) := by
            have := row_part hrow4 (onePick ol) 0 c c (Nat.zero_le _) hm
            simpa [flat_take encPick_len] using this
          have q2 : SrcK w4 7 (.slice (some ⟨g, 0, none⟩) 0 0) 0 [] := srcK_nil _ _ _ _
          have one1 : ∀ u ∈ encPick s, u.oneCell' = true := by intro u hu; exact onePick [s] u (by simpa using hu)
          have hS : ∀ w', Below w4.heap.size w4 w' → Below w4.heap.size w4 w' ∧ w'.cell? ⟨b, off + k * 7, none⟩ = some (.int .i64 s.pId) ∧ w'.cell? ⟨b, off + k * 7 + 1, none⟩ = some (.int .i64 s.pStation) ∧ w'.cell? ⟨b, off + k * 7 + 2, none⟩ = some (.int .i64 s.pWave) ∧ w'.cell? ⟨b, off + k * 7 + 3, none⟩ = some (.int .i64 s.pTick) ∧ w'.cell? ⟨b, off + k * 7 + 4, none⟩ = some (.int .i64 s.pError) ∧ w'.cell? ⟨b, off + k * 7 + 5, none⟩ = some (.int .i64 s.pBy) ∧ w'.cell? ⟨b, off + k * 7 + 6, none⟩ = some (.int .i64 s.pAfter) := fun w' q => ⟨q, cellOf q (cell_of_lt e0) e0, cellOf q (cell_of_lt e1) e1, cellOf q (cell_of_lt e2) e2, cellOf q (cell_of_lt e3) e3, cellOf q (cell_of_lt e4) e4, cellOf q (cell_of_lt e5) e5, cellOf q (cell_of_lt e6) e6⟩
          have HS0 := Lib.hid hS
          have Q1 := Lib.hid q1
          have Q2 := Lib.hid q2
          have ONE := Lib.hid one1
          clear hS q1 q2 one1
          go_wp2
          go_region_held3 (fun w' => Below w4.heap.size w4 w' ∧ w'.cell? ⟨b, off + k * 7, none⟩ = some (.int .i64 s.pId) ∧ w'.cell? ⟨b, off + k * 7 + 1, none⟩ = some (.int .i64 s.pStation) ∧ w'.cell? ⟨b, off + k * 7 + 2, none⟩ = some (.int .i64 s.pWave) ∧ w'.cell? ⟨b, off + k * 7 + 3, none⟩ = some (.int .i64 s.pTick) ∧ w'.cell? ⟨b, off + k * 7 + 4, none⟩ = some (.int .i64 s.pError) ∧ w'.cell? ⟨b, off + k * 7 + 5, none⟩ = some (.int .i64 s.pBy) ∧ w'.cell? ⟨b, off + k * 7 + 6, none⟩ = some (.int .i64 s.pAfter))
            (first
              | exact HS0.out _ (Below.refl _ _).drew
              | exact HS0.out _ (by with_reducible assumption))
            (first
              | (refine step_append_srcK (((w4.alloc (.cells #[] 43)).alloc (.cells #[.int .i64 s.pId, .int .i64 s.pStation, .int .i64 s.pWave, .int .i64 s.pTick, .int .i64 s.pError, .int .i64 s.pBy, .int .i64 s.pAfter] 43)).drew) (by rfl) _ _ _ (by rfl) w4.heap.size 43 ti (.agg #[.int .i64 0, .int .i64 0, .int .i64 0, .int .i64 0, .int .i64 0, .int .i64 0, .int .i64 0]) 7 56 Try.underlying24 hi hz0 hz1 hz2 rfl (by decide) _ (0) ([]) (by rfl) (rA1) _ (c) _ (by rfl) (Q1.out.below KA1) (by unfold maxLen; omega) (by omega) (by first | omega | (simp; done) | (simp; omega)) ?_; intro v5 w5 hr5 hg5 hat5; have B5 : Below w4.heap.size w4 w5 := Below.grown KA1 hg5 (by first | omega | (simp; done) | (simp; omega)) (by intro q hq; cases hq; simp); have r5 : w5.ownsRow w4.heap.size 43 7 v5 c ((ol.take c).flatMap encPick) := (by simpa using hr5); have z5 := B5.size; have b5 := bA1.grown (row := some w4.heap.size) hg5 (by simp); clear hr5 hg5 hat5)
              | (refine step_append_srcK (((w4.alloc (.cells #[.int .i64 s.pId, .int .i64 s.pStation, .int .i64 s.pWave, .int .i64 s.pTick, .int .i64 s.pError, .int .i64 s.pBy, .int .i64 s.pAfter] 43)).alloc (.cells #[] 43)).drew) (by rfl) _ _ _ (by rfl) w4.heap.size 43 ti (.agg #[.int .i64 0, .int .i64 0, .int .i64 0, .int .i64 0, .int .i64 0, .int .i64 0, .int .i64 0]) 7 56 Try.underlying24 hi hz0 hz1 hz2 rfl (by decide) _ (0) ([]) (by rfl) (rB0) _ (c) _ (by rfl) (Q1.out.below KB0) (by unfold maxLen; omega) (by omega) (by first | omega | (simp; done) | (simp; omega)) ?_; intro v5 w5 hr5 hg5 hat5; have B5 : Below w4.heap.size w4 w5 := Below.grown KB0 hg5 (by first | omega | (simp; done) | (simp; omega)) (by intro q hq; cases hq; simp); have r5 : w5.ownsRow w4.heap.size 43 7 v5 c ((ol.take c).flatMap encPick) := (by simpa using hr5); have z5 := B5.size; have b5 := bB0.grown (row := some (w4.heap.size + 1)) hg5 (by simp); clear hr5 hg5 hat5)
              | (refine step_append_srcK ((w4.alloc (.cells #[] 43)).drew) (by rfl) _ _ _ (by rfl) w4.heap.size 43 ti (.agg #[.int .i64 0, .int .i64 0, .int .i64 0, .int .i64 0, .int .i64 0, .int .i64 0, .int .i64 0]) 7 56 Try.underlying24 hi hz0 hz1 hz2 rfl (by decide) _ (0) ([]) (by rfl) (rA) _ (c) _ (by rfl) (Q1.out.below KA) (by unfold maxLen; omega) (by omega) (by first | omega | (simp; done) | (simp; omega)) ?_; intro v5 w5 hr5 hg5 hat5; have B5 : Below w4.heap.size w4 w5 := Below.grown KA hg5 (by first | omega | (simp; done) | (simp; omega)) (by intro q hq; cases hq; simp); have r5 : w5.ownsRow w4.heap.size 43 7 v5 c ((ol.take c).flatMap encPick) := (by simpa using hr5); have z5 := B5.size; have K5 : Below w4.heap.size w4 (w5.alloc (.cells #[.int .i64 s.pId, .int .i64 s.pStation, .int .i64 s.pWave, .int .i64 s.pTick, .int .i64 s.pError, .int .i64 s.pBy, .int .i64 s.pAfter] 43)) := B5.alloc B5.size _; have b5V : Bx (w5.alloc (.cells #[.int .i64 s.pId, .int .i64 s.pStation, .int .i64 s.pWave, .int .i64 s.pTick, .int .i64 s.pError, .int .i64 s.pBy, .int .i64 s.pAfter] 43)) w5.heap.size (encPick s) := Bx.new w5 (encPick s) 43; clear hr5 hg5 hat5)
              | (refine step_append_srcK (w5) (by rfl) _ _ _ (by rfl) w4.heap.size 43 ti (.agg #[.int .i64 0, .int .i64 0, .int .i64 0, .int .i64 0, .int .i64 0, .int .i64 0, .int .i64 0]) 7 56 Try.underlying24 hi hz0 hz1 hz2 rfl (by decide) _ (c) ((ol.take c).flatMap encPick) (by rfl) (r5) _ (1) _ (by rfl) (srcK_box b5 ONE.out) (by unfold maxLen; omega) (by omega) (z5) ?_; intro v6 w6 hr6 hg6 hat6; have B6 : Below w4.heap.size w4 w6 := Below.grown B5 hg6 (by first | omega | (simp; done) | (simp; omega)) (fun q hq => (r5.lt q hq).1); have r6 : w6.ownsRow w4.heap.size 43 7 v6 (c + 1) ((ol.take c).flatMap encPick ++ encPick s) := hr6; have z6 := B6.size; clear hr6 hg6 hat6)
              | (refine step_append_srcK (w5.alloc (.cells #[.int .i64 s.pId, .int .i64 s.pStation, .int .i64 s.pWave, .int .i64 s.pTick, .int .i64 s.pError, .int .i64 s.pBy, .int .i64 s.pAfter] 43)) (by rfl) _ _ _ (by rfl) w4.heap.size 43 ti (.agg #[.int .i64 0, .int .i64 0, .int .i64 0, .int .i64 0, .int .i64 0, .int .i64 0, .int .i64 0]) 7 56 Try.underlying24 hi hz0 hz1 hz2 rfl (by decide) _ (c) ((ol.take c).flatMap encPick) (by rfl) (r5.alloc _) _ (1) _ (by rfl) (srcK_box b5V ONE.out) (by unfold maxLen; omega) (by omega) (by first | omega | (simp; done) | (simp; omega)) ?_; intro v6 w6 hr6 hg6 hat6; have B6 : Below w4.heap.size w4 w6 := Below.grown K5 hg6 (by first | omega | (simp; done) | (simp; omega)) (fun q hq => (r5.lt q hq).1); have r6 : w6.ownsRow w4.heap.size 43 7 v6 (c + 1) ((ol.take c).flatMap encPick ++ encPick s) := hr6; have z6 := B6.size; clear hr6 hg6 hat6)
              | (refine step_append_srcK (w6) (by rfl) _ _ _ (by rfl) w4.heap.size 43 ti (.agg #[.int .i64 0, .int .i64 0, .int .i64 0, .int .i64 0, .int .i64 0, .int .i64 0, .int .i64 0]) 7 56 Try.underlying24 hi hz0 hz1 hz2 rfl (by decide) _ (c + 1) ((ol.take c).flatMap encPick ++ encPick s) (by rfl) (r6) _ (0) _ (by rfl) (Q2.out.below B6) (by unfold maxLen; omega) (by omega) (z6) ?_; intro v7 w7 hr7 hg7 hat7; have B7 : Below w4.heap.size w4 w7 := Below.grown B6 hg7 (by first | omega | (simp; done) | (simp; omega)) (fun q hq => (r6.lt q hq).1); have r7 : w7.ownsRow w4.heap.size 43 7 v7 (c + 1 + 0) ((ol.take c).flatMap encPick ++ encPick s ++ []) := hr7; have z7 := B7.size; clear hr7 hg7 hat7))
          all_goals
            have h71 : c + 1 + 0 = c + 1 := by omega
            rw [h71] at r7
            obtain ⟨g7, cap7, rfl, hc7, hm7, hL7, -⟩ := row_some r7 (by omega)
            have r8 : w7.ownsRow w1.heap.size 43 7 (.slice (some ⟨g7, 0, none⟩) (c + 1) cap7) (c + 1) ((ol.take c ++ s :: ol.drop c).flatMap encPick) := by
              have := Go.Joins.ownsRow_le r7 (base' := w1.heap.size) (by omega)
              simpa [List.flatMap_append, List.flatMap_cons, List.append_assoc, hd9] using this
            have C7 : Below w1.heap.size w1 w7 := hbl.trans ((hbx.trans (B7.mono hbx.size)).mono hsz)
            have HOL2 : Hid ((ol.take c ++ s :: ol.drop c).length = c + 1) := Lib.hid (by rw [List.length_append, List.length_cons, List.length_take, List.length_drop, HOL.out]; omega)
            clear r7 h71
            go_wp2
            go_roundw
            case rel => exact ⟨k + 1, c + 1, _, g7, cap7, by omega, by omega, by go_num, rfl, HSF2, HOL2, r8, hc7, hm7, C7⟩
            case measure => simp [intOf]; omega
        have HSF2 := Lib.hid (soFar_succ HGL.out HSF.out HS.out HCU.out HM.out HL.out (by rw [HOL.out]; exact hm))
        have hx4 := hbx.size
        have hm0 : (0 : Int) ≤ (m : Int) := by omega
        have hm1 : (m : Int) ≤ (c : Int) := by omega
        have hcm5 : (m : Int) ≤ (ocap : Int) := by omega
        have hcm6 : m ≤ ocap := by omega
        have hrow4 := row_below hrow2 hb4
        have e0 := cellOf hb4 (cell_of_lt d0) d0
        have e1 := cellOf hb4 (cell_of_lt d1) d1
        have e2 := cellOf hb4 (cell_of_lt d2) d2
        have e3 := cellOf hb4 (cell_of_lt d3) d3
        have e4 := cellOf hb4 (cell_of_lt d4) d4
        have e5 := cellOf hb4 (cell_of_lt d5) d5
        have e6 := cellOf hb4 (cell_of_lt d6) d6
        have KA : Below w4.heap.size w4 (w4.alloc (.cells #[] 43)).drew := ((Below.refl _ _).alloc (Nat.le_refl _) _).drew
        have KA1 : Below w4.heap.size w4 ((w4.alloc (.cells #[] 43)).alloc (.cells #[.int .i64 s.pId, .int .i64 s.pStation, .int .i64 s.pWave, .int .i64 s.pTick, .int .i64 s.pError, .int .i64 s.pBy, .int .i64 s.pAfter] 43)).drew := (((Below.refl _ _).alloc (Nat.le_refl _) _).alloc (by first | omega | (simp; done) | (simp; omega)) _).drew
        have KB : Below w4.heap.size w4 (w4.alloc (.cells #[.int .i64 s.pId, .int .i64 s.pStation, .int .i64 s.pWave, .int .i64 s.pTick, .int .i64 s.pError, .int .i64 s.pBy, .int .i64 s.pAfter] 43)).drew := ((Below.refl _ _).alloc (Nat.le_refl _) _).drew
        have KB0 : Below w4.heap.size w4 ((w4.alloc (.cells #[.int .i64 s.pId, .int .i64 s.pStation, .int .i64 s.pWave, .int .i64 s.pTick, .int .i64 s.pError, .int .i64 s.pBy, .int .i64 s.pAfter] 43)).alloc (.cells #[] 43)).drew := (((Below.refl _ _).alloc (Nat.le_refl _) _).alloc (by first | omega | (simp; done) | (simp; omega)) _).drew
        have rA : (w4.alloc (.cells #[] 43)).drew.ownsRow w4.heap.size 43 7 (.slice (some ⟨w4.heap.size, 0, none⟩) 0 0) 0 [] := rowK_empty w4 _ _ (Nat.le_refl _)
        have rA1 : ((w4.alloc (.cells #[] 43)).alloc (.cells #[.int .i64 s.pId, .int .i64 s.pStation, .int .i64 s.pWave, .int .i64 s.pTick, .int .i64 s.pError, .int .i64 s.pBy, .int .i64 s.pAfter] 43)).drew.ownsRow w4.heap.size 43 7 (.slice (some ⟨w4.heap.size, 0, none⟩) 0 0) 0 [] := (rowK_empty w4 _ _ (Nat.le_refl _)).alloc _
        have rB0 : ((w4.alloc (.cells #[.int .i64 s.pId, .int .i64 s.pStation, .int .i64 s.pWave, .int .i64 s.pTick, .int .i64 s.pError, .int .i64 s.pBy, .int .i64 s.pAfter] 43)).alloc (.cells #[] 43)).drew.ownsRow w4.heap.size 43 7 (.slice (some ⟨w4.heap.size + 1, 0, none⟩) 0 0) 0 [] := by
          have h9 : ((w4.alloc (.cells #[.int .i64 s.pId, .int .i64 s.pStation, .int .i64 s.pWave, .int .i64 s.pTick, .int .i64 s.pError, .int .i64 s.pBy, .int .i64 s.pAfter] 43)).alloc (.cells #[] 43)).ownsRow w4.heap.size 43 7 (.slice (some ⟨w4.heap.size + 1, 0, none⟩) 0 0) 0 [] := by
            have := rowK_empty (w4.alloc (.cells #[.int .i64 s.pId, .int .i64 s.pStation, .int .i64 s.pWave, .int .i64 s.pTick, .int .i64 s.pError, .int .i64 s.pBy, .int .i64 s.pAfter] 43)) (base := w4.heap.size) 43 7 (by first | omega | (simp; done) | (simp; omega))
            simpa using this
          exact h9
        have bA1 : Bx ((w4.alloc (.cells #[] 43)).alloc (.cells #[.int .i64 s.pId, .int .i64 s.pStation, .int .i64 s.pWave, .int .i64 s.pTick, .int .i64 s.pError, .int .i64 s.pBy, .int .i64 s.pAfter] 43)).drew (w4.heap.size + 1) (encPick s) := Bx.new1 w4 (.cells #[] 43) (encPick s) 43
        have bB0 : Bx ((w4.alloc (.cells #[.int .i64 s.pId, .int .i64 s.pStation, .int .i64 s.pWave, .int .i64 s.pTick, .int .i64 s.pError, .int .i64 s.pBy, .int .i64 s.pAfter] 43)).alloc (.cells #[] 43)).drew w4.heap.size (encPick s) := (Bx.new w4 (encPick s) 43).alloc _
        have q1 : SrcK w4 7 (.slice (some ⟨g, 0, none⟩) m ocap) m ((ol.take m).flatMap encPick) := by
          have := row_part hrow4 (onePick ol) 0 m ocap (Nat.zero_le _) hm
          simpa [flat_take encPick_len] using this
        have q2 : SrcK w4 7 (.slice (some ⟨g, m * 7, none⟩) (c - m) (ocap - m)) (c - m) ((ol.drop m).flatMap encPick) := by
          have := row_part hrow4 (onePick ol) m c (ocap - m) hm (Nat.le_refl _)
          rwa [flat_drop encPick_len, List.take_of_length_le (by rw [flat_len encPick_len, List.length_drop, HOL.out]; exact Nat.le_refl _)] at this
        have one1 : ∀ u ∈ encPick s, u.oneCell' = true := by intro u hu; exact onePick [s] u (by simpa using hu)
        have hS : ∀ w', Below w4.heap.size w4 w' → Below w4.heap.size w4 w' ∧ w'.cell? ⟨b, off + k * 7, none⟩ = some (.int .i64 s.pId) ∧ w'.cell? ⟨b, off + k * 7 + 1, none⟩ = some (.int .i64 s.pStation) ∧ w'.cell? ⟨b, off + k * 7 + 2, none⟩ = some (.int .i64 s.pWave) ∧ w'.cell? ⟨b, off + k * 7 + 3, none⟩ = some (.int .i64 s.pTick) ∧ w'.cell? ⟨b, off + k * 7 + 4, none⟩ = some (.int .i64 s.pError) ∧ w'.cell? ⟨b, off + k * 7 + 5, none⟩ = some (.int .i64 s.pBy) ∧ w'.cell? ⟨b, off + k * 7 + 6, none⟩ = some (.int .i64 s.pAfter) := fun w' q => ⟨q, cellOf q (cell_of_lt e0) e0, cellOf q (cell_of_lt e1) e1, cellOf q (cell_of_lt e2) e2, cellOf q (cell_of_lt e3) e3, cellOf q (cell_of_lt e4) e4, cellOf q (cell_of_lt e5) e5, cellOf q (cell_of_lt e6) e6⟩
        have HS0 := Lib.hid hS
        have Q1 := Lib.hid q1
        have Q2 := Lib.hid q2
        have ONE := Lib.hid one1
        clear hS q1 q2 one1
        have hcm : ¬ m = ocap := hcapm
        have hcm4 : ¬ ocap = m := fun h => hcapm h.symm
        have hcm7 : (c : Int) ≤ (ocap : Int) := by omega
        have hcm8 : ¬ (ocap : Int) < (m : Int) := by omega
        have hcm9 : ¬ (c : Int) < (m : Int) := by omega
        have hcm2 : (m : Int) ≤ (c : Int) := hm1
        have hcm3 : m ≤ c := hm
        go_wp2
        go_region_held3 (fun w' => Below w4.heap.size w4 w' ∧ w'.cell? ⟨b, off + k * 7, none⟩ = some (.int .i64 s.pId) ∧ w'.cell? ⟨b, off + k * 7 + 1, none⟩ = some (.int .i64 s.pStation) ∧ w'.cell? ⟨b, off + k * 7 + 2, none⟩ = some (.int .i64 s.pWave) ∧ w'.cell? ⟨b, off + k * 7 + 3, none⟩ = some (.int .i64 s.pTick) ∧ w'.cell? ⟨b, off + k * 7 + 4, none⟩ = some (.int .i64 s.pError) ∧ w'.cell? ⟨b, off + k * 7 + 5, none⟩ = some (.int .i64 s.pBy) ∧ w'.cell? ⟨b, off + k * 7 + 6, none⟩ = some (.int .i64 s.pAfter))
          (first
            | exact HS0.out _ (Below.refl _ _).drew
            | exact HS0.out _ (by with_reducible assumption))
          (first
            | (refine step_append_srcK (((w4.alloc (.cells #[] 43)).alloc (.cells #[.int .i64 s.pId, .int .i64 s.pStation, .int .i64 s.pWave, .int .i64 s.pTick, .int .i64 s.pError, .int .i64 s.pBy, .int .i64 s.pAfter] 43)).drew) (by rfl) _ _ _ (by rfl) w4.heap.size 43 ti (.agg #[.int .i64 0, .int .i64 0, .int .i64 0, .int .i64 0, .int .i64 0, .int .i64 0, .int .i64 0]) 7 56 Try.underlying24 hi hz0 hz1 hz2 rfl (by decide) _ (0) ([]) (by rfl) (rA1) _ (m) _ (by rfl) (Q1.out.below KA1) (by unfold maxLen; omega) (by omega) (by first | omega | (simp; done) | (simp; omega)) ?_; intro v5 w5 hr5 hg5 hat5; have B5 : Below w4.heap.size w4 w5 := Below.grown KA1 hg5 (by first | omega | (simp; done) | (simp; omega)) (by intro q hq; cases hq; simp); have r5 : w5.ownsRow w4.heap.size 43 7 v5 m ((ol.take m).flatMap encPick) := (by simpa using hr5); have z5 := B5.size; have b5 := bA1.grown (row := some w4.heap.size) hg5 (by simp); clear hr5 hg5 hat5)
            | (refine step_append_srcK (((w4.alloc (.cells #[.int .i64 s.pId, .int .i64 s.pStation, .int .i64 s.pWave, .int .i64 s.pTick, .int .i64 s.pError, .int .i64 s.pBy, .int .i64 s.pAfter] 43)).alloc (.cells #[] 43)).drew) (by rfl) _ _ _ (by rfl) w4.heap.size 43 ti (.agg #[.int .i64 0, .int .i64 0, .int .i64 0, .int .i64 0, .int .i64 0, .int .i64 0, .int .i64 0]) 7 56 Try.underlying24 hi hz0 hz1 hz2 rfl (by decide) _ (0) ([]) (by rfl) (rB0) _ (m) _ (by rfl) (Q1.out.below KB0) (by unfold maxLen; omega) (by omega) (by first | omega | (simp; done) | (simp; omega)) ?_; intro v5 w5 hr5 hg5 hat5; have B5 : Below w4.heap.size w4 w5 := Below.grown KB0 hg5 (by first | omega | (simp; done) | (simp; omega)) (by intro q hq; cases hq; simp); have r5 : w5.ownsRow w4.heap.size 43 7 v5 m ((ol.take m).flatMap encPick) := (by simpa using hr5); have z5 := B5.size; have b5 := bB0.grown (row := some (w4.heap.size + 1)) hg5 (by simp); clear hr5 hg5 hat5)
            | (refine step_append_srcK ((w4.alloc (.cells #[] 43)).drew) (by rfl) _ _ _ (by rfl) w4.heap.size 43 ti (.agg #[.int .i64 0, .int .i64 0, .int .i64 0, .int .i64 0, .int .i64 0, .int .i64 0, .int .i64 0]) 7 56 Try.underlying24 hi hz0 hz1 hz2 rfl (by decide) _ (0) ([]) (by rfl) (rA) _ (m) _ (by rfl) (Q1.out.below KA) (by unfold maxLen; omega) (by omega) (by first | omega | (simp; done) | (simp; omega)) ?_; intro v5 w5 hr5 hg5 hat5; have B5 : Below w4.heap.size w4 w5 := Below.grown KA hg5 (by first | omega | (simp; done) | (simp; omega)) (by intro q hq; cases hq; simp); have r5 : w5.ownsRow w4.heap.size 43 7 v5 m ((ol.take m).flatMap encPick) := (by simpa using hr5); have z5 := B5.size; have K5 : Below w4.heap.size w4 (w5.alloc (.cells #[.int .i64 s.pId, .int .i64 s.pStation, .int .i64 s.pWave, .int .i64 s.pTick, .int .i64 s.pError, .int .i64 s.pBy, .int .i64 s.pAfter] 43)) := B5.alloc B5.size _; have b5V : Bx (w5.alloc (.cells #[.int .i64 s.pId, .int .i64 s.pStation, .int .i64 s.pWave, .int .i64 s.pTick, .int .i64 s.pError, .int .i64 s.pBy, .int .i64 s.pAfter] 43)) w5.heap.size (encPick s) := Bx.new w5 (encPick s) 43; clear hr5 hg5 hat5)
            | (refine step_append_srcK (w5) (by rfl) _ _ _ (by rfl) w4.heap.size 43 ti (.agg #[.int .i64 0, .int .i64 0, .int .i64 0, .int .i64 0, .int .i64 0, .int .i64 0, .int .i64 0]) 7 56 Try.underlying24 hi hz0 hz1 hz2 rfl (by decide) _ (m) ((ol.take m).flatMap encPick) (by rfl) (r5) _ (1) _ (by rfl) (srcK_box b5 ONE.out) (by unfold maxLen; omega) (by omega) (z5) ?_; intro v6 w6 hr6 hg6 hat6; have B6 : Below w4.heap.size w4 w6 := Below.grown B5 hg6 (by first | omega | (simp; done) | (simp; omega)) (fun q hq => (r5.lt q hq).1); have r6 : w6.ownsRow w4.heap.size 43 7 v6 (m + 1) ((ol.take m).flatMap encPick ++ encPick s) := hr6; have z6 := B6.size; clear hr6 hg6 hat6)
            | (refine step_append_srcK (w5.alloc (.cells #[.int .i64 s.pId, .int .i64 s.pStation, .int .i64 s.pWave, .int .i64 s.pTick, .int .i64 s.pError, .int .i64 s.pBy, .int .i64 s.pAfter] 43)) (by rfl) _ _ _ (by rfl) w4.heap.size 43 ti (.agg #[.int .i64 0, .int .i64 0, .int .i64 0, .int .i64 0, .int .i64 0, .int .i64 0, .int .i64 0]) 7 56 Try.underlying24 hi hz0 hz1 hz2 rfl (by decide) _ (m) ((ol.take m).flatMap encPick) (by rfl) (r5.alloc _) _ (1) _ (by rfl) (srcK_box b5V ONE.out) (by unfold maxLen; omega) (by omega) (by first | omega | (simp; done) | (simp; omega)) ?_; intro v6 w6 hr6 hg6 hat6; have B6 : Below w4.heap.size w4 w6 := Below.grown K5 hg6 (by first | omega | (simp; done) | (simp; omega)) (fun q hq => (r5.lt q hq).1); have r6 : w6.ownsRow w4.heap.size 43 7 v6 (m + 1) ((ol.take m).flatMap encPick ++ encPick s) := hr6; have z6 := B6.size; clear hr6 hg6 hat6)
            | (refine step_append_srcK (w6) (by rfl) _ _ _ (by rfl) w4.heap.size 43 ti (.agg #[.int .i64 0, .int .i64 0, .int .i64 0, .int .i64 0, .int .i64 0, .int .i64 0, .int .i64 0]) 7 56 Try.underlying24 hi hz0 hz1 hz2 rfl (by decide) _ (m + 1) ((ol.take m).flatMap encPick ++ encPick s) (by rfl) (r6) _ (c - m) _ (by rfl) (Q2.out.below B6) (by unfold maxLen; omega) (by omega) (z6) ?_; intro v7 w7 hr7 hg7 hat7; have B7 : Below w4.heap.size w4 w7 := Below.grown B6 hg7 (by first | omega | (simp; done) | (simp; omega)) (fun q hq => (r6.lt q hq).1); have r7 : w7.ownsRow w4.heap.size 43 7 v7 (m + 1 + (c - m)) ((ol.take m).flatMap encPick ++ encPick s ++ (ol.drop m).flatMap encPick) := hr7; have z7 := B7.size; clear hr7 hg7 hat7))
        all_goals
          have h71 : m + 1 + (c - m) = c + 1 := by omega
          rw [h71] at r7
          obtain ⟨g7, cap7, rfl, hc7, hm7, hL7, -⟩ := row_some r7 (by omega)
          have r8 : w7.ownsRow w1.heap.size 43 7 (.slice (some ⟨g7, 0, none⟩) (c + 1) cap7) (c + 1) ((ol.take m ++ s :: ol.drop m).flatMap encPick) := by
            have := Go.Joins.ownsRow_le r7 (base' := w1.heap.size) (by omega)
            simpa [List.flatMap_append, List.flatMap_cons, List.append_assoc] using this
          have C7 : Below w1.heap.size w1 w7 := hbl.trans ((hbx.trans (B7.mono hbx.size)).mono hsz)
          have HOL2 : Hid ((ol.take m ++ s :: ol.drop m).length = c + 1) := Lib.hid (by rw [List.length_append, List.length_cons, List.length_take, List.length_drop, HOL.out]; omega)
          clear r7 h71
          go_wp2
          go_roundw
          case rel => exact ⟨k + 1, c + 1, _, g7, cap7, by omega, by omega, by go_num, rfl, HSF2, HOL2, r8, hc7, hm7, C7⟩
          case measure => simp [intOf]; omega
      have m1 : 1 ≤ m := by omega
      clear hm0
      obtain ⟨t, ht⟩ := get_of_lt (l := ol) (k := m - 1) (by rw [HOL.out]; omega)
      obtain ⟨-, -, -, tc, -⟩ := OwnK.at (OwnK.of_row encPick_len (by omega) hrow2) ht
      have t3 : wr.cell? ⟨g, (m - 1) * 7 + 3, none⟩ = some (.int .i64 t.pTick) := by have := tc 3 _ rfl; simpa using this
      have HT := Lib.hid ht
      clear ht tc
      have mp0 : (0 : Int) < (m : Int) := by omega
      have mp1 : 0 < m := by omega
      have mp2 : (0 : Int) ≤ (m : Int) - 1 := by omega
      have mp3 : (m : Int) - 1 < (c : Int) := by omega
      have mp4 : ((m : Int) - 1).toNat = m - 1 := by omega
      have mp5 : IntKind.i64.wrap ((m : Int) - 1) = (m : Int) - 1 := IntWalk.i64_in _ (by omega)
      have mp6 : (m : Int) ≤ 12 := by omega
      have mp7 : decide ((0 : Int) < (m : Int)) = true := decide_eq_true mp0
      have rd3 := cell_regrown d3
      have rt3 := cell_regrown t3
      by_cases hgt : s.pTick < t.pTick
      case pos =>
        have HM2 : Hid (∀ j t, ol[j]? = some t → m - 1 ≤ j → s.pTick < t.pTick) := Lib.hid (fun j u hu hj => by
          by_cases e : j = m - 1
          · subst e; rw [HT.out] at hu; cases hu; exact hgt
          · exact HM.out j u hu (by omega))
        have hgd : decide (s.pTick < t.pTick) = true := decide_eq_true hgt
        go_wp2
        refine wp_region_quiet_below (by kernel_rfl) (by kernel_rfl) ?_
        repeat (go_big_quiet_step (fail))
        refine wpQuiet_nil ?_
        intro _ hw'
        obtain ⟨⟨dq, osq⟩, hw''⟩ := hw'
        subst hw''
        have hb4 := below_regrown (wr) dq osq
        generalize grow (redrawn (wr) dq) osq = w4 at *
        go_wp2
        go_roundw
        case rel => exact ⟨m - 1, by omega, by go_num, HM2, hbi.trans (hb4.mono hszi)⟩
        case measure => first | (simp [intOf]; done) | (simp [intOf]; omega) | (unfold intOf; omega)
      have HL : Hid (∀ u, ol[m - 1]? = some u → 0 < m → u.pTick ≤ s.pTick) := Lib.hid (fun u hu _ => by
        rw [HT.out] at hu; cases hu; omega)
      have hgd : decide (s.pTick < t.pTick) = false := decide_eq_false hgt
      have hge : t.pTick ≤ s.pTick := by omega
      go_wp2
      refine wp_region_quiet_below (by kernel_rfl) (by kernel_rfl) ?_
      repeat (go_big_quiet_step (fail))
      refine wpQuiet_nil ?_
      intro _ hw'
      obtain ⟨⟨dq, osq⟩, hw''⟩ := hw'
      subst hw''
      have hb4 := below_regrown (wr) dq osq
      generalize grow (redrawn (wr) dq) osq = w4 at *
      clear mp2 mp3 mp4 mp5 mp6 mp7 HT t3 rt3 rd3 hgt hgd hge
      have hbx := hbi.trans (hb4.mono hszi)
      by_cases hcapm : m = ocap
      case pos =>
        have hkm : c = m := by omega
        subst hkm
        subst hcapm
        have hd9 : ol.drop c = [] := List.drop_of_length_le (by rw [HOL.out]; omega)
        have HSF2 := Lib.hid (soFar_succ HGL.out HSF.out HS.out HCU.out HM.out HL.out (by rw [HOL.out]; exact hm))
        have hx4 := hbx.size
        have hm0 : (0 : Int) ≤ (c : Int) := by omega
        have hm1 : (c : Int) ≤ (c : Int) := by omega
        have hcm5 : (c : Int) ≤ (c : Int) := by omega
        have hcm6 : c ≤ c := by omega
        have hrow4 := row_below hrow2 hb4
        have e0 := cellOf hb4 (cell_of_lt d0) d0
        have e1 := cellOf hb4 (cell_of_lt d1) d1
        have e2 := cellOf hb4 (cell_of_lt d2) d2
        have e3 := cellOf hb4 (cell_of_lt d3) d3
        have e4 := cellOf hb4 (cell_of_lt d4) d4
        have e5 := cellOf hb4 (cell_of_lt d5) d5
        have e6 := cellOf hb4 (cell_of_lt d6) d6
        have KA : Below w4.heap.size w4 (w4.alloc (.cells #[] 43)).drew := ((Below.refl _ _).alloc (Nat.le_refl _) _).drew
        have KA1 : Below w4.heap.size w4 ((w4.alloc (.cells #[] 43)).alloc (.cells #[.int .i64 s.pId, .int .i64 s.pStation, .int .i64 s.pWave, .int .i64 s.pTick, .int .i64 s.pError, .int .i64 s.pBy, .int .i64 s.pAfter] 43)).drew := (((Below.refl _ _).alloc (Nat.le_refl _) _).alloc (by first | omega | (simp; done) | (simp; omega)) _).drew
        have KB : Below w4.heap.size w4 (w4.alloc (.cells #[.int .i64 s.pId, .int .i64 s.pStation, .int .i64 s.pWave, .int .i64 s.pTick, .int .i64 s.pError, .int .i64 s.pBy, .int .i64 s.pAfter] 43)).drew := ((Below.refl _ _).alloc (Nat.le_refl _) _).drew
        have KB0 : Below w4.heap.size w4 ((w4.alloc (.cells #[.int .i64 s.pId, .int .i64 s.pStation, .int .i64 s.pWave, .int .i64 s.pTick, .int .i64 s.pError, .int .i64 s.pBy, .int .i64 s.pAfter] 43)).alloc (.cells #[] 43)).drew := (((Below.refl _ _).alloc (Nat.le_refl _) _).alloc (by first | omega | (simp; done) | (simp; omega)) _).drew
        have rA : (w4.alloc (.cells #[] 43)).drew.ownsRow w4.heap.size 43 7 (.slice (some ⟨w4.heap.size, 0, none⟩) 0 0) 0 [] := rowK_empty w4 _ _ (Nat.le_refl _)
        have rA1 : ((w4.alloc (.cells #[] 43)).alloc (.cells #[.int .i64 s.pId, .int .i64 s.pStation, .int .i64 s.pWave, .int .i64 s.pTick, .int .i64 s.pError, .int .i64 s.pBy, .int .i64 s.pAfter] 43)).drew.ownsRow w4.heap.size 43 7 (.slice (some ⟨w4.heap.size, 0, none⟩) 0 0) 0 [] := (rowK_empty w4 _ _ (Nat.le_refl _)).alloc _
        have rB0 : ((w4.alloc (.cells #[.int .i64 s.pId, .int .i64 s.pStation, .int .i64 s.pWave, .int .i64 s.pTick, .int .i64 s.pError, .int .i64 s.pBy, .int .i64 s.pAfter] 43)).alloc (.cells #[] 43)).drew.ownsRow w4.heap.size 43 7 (.slice (some ⟨w4.heap.size + 1, 0, none⟩) 0 0) 0 [] := by
          have h9 : ((w4.alloc (.cells #[.int .i64 s.pId, .int .i64 s.pStation, .int .i64 s.pWave, .int .i64 s.pTick, .int .i64 s.pError, .int .i64 s.pBy, .int .i64 s.pAfter] 43)).alloc (.cells #[] 43)).ownsRow w4.heap.size 43 7 (.slice (some ⟨w4.heap.size + 1, 0, none⟩) 0 0) 0 [] := by
            have := rowK_empty (w4.alloc (.cells #[.int .i64 s.pId, .int .i64 s.pStation, .int .i64 s.pWave, .int .i64 s.pTick, .int .i64 s.pError, .int .i64 s.pBy, .int .i64 s.pAfter] 43)) (base := w4.heap.size) 43 7 (by first | omega | (simp; done) | (simp; omega))
            simpa using this
          exact h9
        have bA1 : Bx ((w4.alloc (.cells #[] 43)).alloc (.cells #[.int .i64 s.pId, .int .i64 s.pStation, .int .i64 s.pWave, .int .i64 s.pTick, .int .i64 s.pError, .int .i64 s.pBy, .int .i64 s.pAfter] 43)).drew (w4.heap.size + 1) (encPick s) := Bx.new1 w4 (.cells #[] 43) (encPick s) 43
        have bB0 : Bx ((w4.alloc (.cells #[.int .i64 s.pId, .int .i64 s.pStation, .int .i64 s.pWave, .int .i64 s.pTick, .int .i64 s.pError, .int .i64 s.pBy, .int .i64 s.pAfter] 43)).alloc (.cells #[] 43)).drew w4.heap.size (encPick s) := (Bx.new w4 (encPick s) 43).alloc _
        have q1 : SrcK w4 7 (.slice (some ⟨g, 0, none⟩) c c) c ((ol.take c).flatMap encPick) := by
          have := row_part hrow4 (onePick ol) 0 c c (Nat.zero_le _) hm
          simpa [flat_take encPick_len] using this
        have q2 : SrcK w4 7 (.slice (some ⟨g, 0, none⟩) 0 0) 0 [] := srcK_nil _ _ _ _
        have one1 : ∀ u ∈ encPick s, u.oneCell' = true := by intro u hu; exact onePick [s] u (by simpa using hu)
        have hS : ∀ w', Below w4.heap.size w4 w' → Below w4.heap.size w4 w' ∧ w'.cell? ⟨b, off + k * 7, none⟩ = some (.int .i64 s.pId) ∧ w'.cell? ⟨b, off + k * 7 + 1, none⟩ = some (.int .i64 s.pStation) ∧ w'.cell? ⟨b, off + k * 7 + 2, none⟩ = some (.int .i64 s.pWave) ∧ w'.cell? ⟨b, off + k * 7 + 3, none⟩ = some (.int .i64 s.pTick) ∧ w'.cell? ⟨b, off + k * 7 + 4, none⟩ = some (.int .i64 s.pError) ∧ w'.cell? ⟨b, off + k * 7 + 5, none⟩ = some (.int .i64 s.pBy) ∧ w'.cell? ⟨b, off + k * 7 + 6, none⟩ = some (.int .i64 s.pAfter) := fun w' q => ⟨q, cellOf q (cell_of_lt e0) e0, cellOf q (cell_of_lt e1) e1, cellOf q (cell_of_lt e2) e2, cellOf q (cell_of_lt e3) e3, cellOf q (cell_of_lt e4) e4, cellOf q (cell_of_lt e5) e5, cellOf q (cell_of_lt e6) e6⟩
        have HS0 := Lib.hid hS
        have Q1 := Lib.hid q1
        have Q2 := Lib.hid q2
        have ONE := Lib.hid one1
        clear hS q1 q2 one1
        go_wp2
        go_region_held3 (fun w' => Below w4.heap.size w4 w' ∧ w'.cell? ⟨b, off + k * 7, none⟩ = some (.int .i64 s.pId) ∧ w'.cell? ⟨b, off + k * 7 + 1, none⟩ = some (.int .i64 s.pStation) ∧ w'.cell? ⟨b, off + k * 7 + 2, none⟩ = some (.int .i64 s.pWave) ∧ w'.cell? ⟨b, off + k * 7 + 3, none⟩ = some (.int .i64 s.pTick) ∧ w'.cell? ⟨b, off + k * 7 + 4, none⟩ = some (.int .i64 s.pError) ∧ w'.cell? ⟨b, off + k * 7 + 5, none⟩ = some (.int .i64 s.pBy) ∧ w'.cell? ⟨b, off + k * 7 + 6, none⟩ = some (.int .i64 s.pAfter))
          (first
            | exact HS0.out _ (Below.refl _ _).drew
            | exact HS0.out _ (by with_reducible assumption))
          (first
            | (refine step_append_srcK (((w4.alloc (.cells #[] 43)).alloc (.cells #[.int .i64 s.pId, .int .i64 s.pStation, .int .i64 s.pWave, .int .i64 s.pTick, .int .i64 s.pError, .int .i64 s.pBy, .int .i64 s.pAfter] 43)).drew) (by rfl) _ _ _ (by rfl) w4.heap.size 43 ti (.agg #[.int .i64 0, .int .i64 0, .int .i64 0, .int .i64 0, .int .i64 0, .int .i64 0, .int .i64 0]) 7 56 Try.underlying24 hi hz0 hz1 hz2 rfl (by decide) _ (0) ([]) (by rfl) (rA1) _ (c) _ (by rfl) (Q1.out.below KA1) (by unfold maxLen; omega) (by omega) (by first | omega | (simp; done) | (simp; omega)) ?_; intro v5 w5 hr5 hg5 hat5; have B5 : Below w4.heap.size w4 w5 := Below.grown KA1 hg5 (by first | omega | (simp; done) | (simp; omega)) (by intro q hq; cases hq; simp); have r5 : w5.ownsRow w4.heap.size 43 7 v5 c ((ol.take c).flatMap encPick) := (by simpa using hr5); have z5 := B5.size; have b5 := bA1.grown (row := some w4.heap.size) hg5 (by simp); clear hr5 hg5 hat5)
            | (refine step_append_srcK (((w4.alloc (.cells #[.int .i64 s.pId, .int .i64 s.pStation, .int .i64 s.pWave, .int .i64 s.pTick, .int .i64 s.pError, .int .i64 s.pBy, .int .i64 s.pAfter] 43)).alloc (.cells #[] 43)).drew) (by rfl) _ _ _ (by rfl) w4.heap.size 43 ti (.agg #[.int .i64 0, .int .i64 0, .int .i64 0, .int .i64 0, .int .i64 0, .int .i64 0, .int .i64 0]) 7 56 Try.underlying24 hi hz0 hz1 hz2 rfl (by decide) _ (0) ([]) (by rfl) (rB0) _ (c) _ (by rfl) (Q1.out.below KB0) (by unfold maxLen; omega) (by omega) (by first | omega | (simp; done) | (simp; omega)) ?_; intro v5 w5 hr5 hg5 hat5; have B5 : Below w4.heap.size w4 w5 := Below.grown KB0 hg5 (by first | omega | (simp; done) | (simp; omega)) (by intro q hq; cases hq; simp); have r5 : w5.ownsRow w4.heap.size 43 7 v5 c ((ol.take c).flatMap encPick) := (by simpa using hr5); have z5 := B5.size; have b5 := bB0.grown (row := some (w4.heap.size + 1)) hg5 (by simp); clear hr5 hg5 hat5)
            | (refine step_append_srcK ((w4.alloc (.cells #[] 43)).drew) (by rfl) _ _ _ (by rfl) w4.heap.size 43 ti (.agg #[.int .i64 0, .int .i64 0, .int .i64 0, .int .i64 0, .int .i64 0, .int .i64 0, .int .i64 0]) 7 56 Try.underlying24 hi hz0 hz1 hz2 rfl (by decide) _ (0) ([]) (by rfl) (rA) _ (c) _ (by rfl) (Q1.out.below KA) (by unfold maxLen; omega) (by omega) (by first | omega | (simp; done) | (simp; omega)) ?_; intro v5 w5 hr5 hg5 hat5; have B5 : Below w4.heap.size w4 w5 := Below.grown KA hg5 (by first | omega | (simp; done) | (simp; omega)) (by intro q hq; cases hq; simp); have r5 : w5.ownsRow w4.heap.size 43 7 v5 c ((ol.take c).flatMap encPick) := (by simpa using hr5); have z5 := B5.size; have K5 : Below w4.heap.size w4 (w5.alloc (.cells #[.int .i64 s.pId, .int .i64 s.pStation, .int .i64 s.pWave, .int .i64 s.pTick, .int .i64 s.pError, .int .i64 s.pBy, .int .i64 s.pAfter] 43)) := B5.alloc B5.size _; have b5V : Bx (w5.alloc (.cells #[.int .i64 s.pId, .int .i64 s.pStation, .int .i64 s.pWave, .int .i64 s.pTick, .int .i64 s.pError, .int .i64 s.pBy, .int .i64 s.pAfter] 43)) w5.heap.size (encPick s) := Bx.new w5 (encPick s) 43; clear hr5 hg5 hat5)
            | (refine step_append_srcK (w5) (by rfl) _ _ _ (by rfl) w4.heap.size 43 ti (.agg #[.int .i64 0, .int .i64 0, .int .i64 0, .int .i64 0, .int .i64 0, .int .i64 0, .int .i64 0]) 7 56 Try.underlying24 hi hz0 hz1 hz2 rfl (by decide) _ (c) ((ol.take c).flatMap encPick) (by rfl) (r5) _ (1) _ (by rfl) (srcK_box b5 ONE.out) (by unfold maxLen; omega) (by omega) (z5) ?_; intro v6 w6 hr6 hg6 hat6; have B6 : Below w4.heap.size w4 w6 := Below.grown B5 hg6 (by first | omega | (simp; done) | (simp; omega)) (fun q hq => (r5.lt q hq).1); have r6 : w6.ownsRow w4.heap.size 43 7 v6 (c + 1) ((ol.take c).flatMap encPick ++ encPick s) := hr6; have z6 := B6.size; clear hr6 hg6 hat6)
            | (refine step_append_srcK (w5.alloc (.cells #[.int .i64 s.pId, .int .i64 s.pStation, .int .i64 s.pWave, .int .i64 s.pTick, .int .i64 s.pError, .int .i64 s.pBy, .int .i64 s.pAfter] 43)) (by rfl) _ _ _ (by rfl) w4.heap.size 43 ti (.agg #[.int .i64 0, .int .i64 0, .int .i64 0, .int .i64 0, .int .i64 0, .int .i64 0, .int .i64 0]) 7 56 Try.underlying24 hi hz0 hz1 hz2 rfl (by decide) _ (c) ((ol.take c).flatMap encPick) (by rfl) (r5.alloc _) _ (1) _ (by rfl) (srcK_box b5V ONE.out) (by unfold maxLen; omega) (by omega) (by first | omega | (simp; done) | (simp; omega)) ?_; intro v6 w6 hr6 hg6 hat6; have B6 : Below w4.heap.size w4 w6 := Below.grown K5 hg6 (by first | omega | (simp; done) | (simp; omega)) (fun q hq => (r5.lt q hq).1); have r6 : w6.ownsRow w4.heap.size 43 7 v6 (c + 1) ((ol.take c).flatMap encPick ++ encPick s) := hr6; have z6 := B6.size; clear hr6 hg6 hat6)
            | (refine step_append_srcK (w6) (by rfl) _ _ _ (by rfl) w4.heap.size 43 ti (.agg #[.int .i64 0, .int .i64 0, .int .i64 0, .int .i64 0, .int .i64 0, .int .i64 0, .int .i64 0]) 7 56 Try.underlying24 hi hz0 hz1 hz2 rfl (by decide) _ (c + 1) ((ol.take c).flatMap encPick ++ encPick s) (by rfl) (r6) _ (0) _ (by rfl) (Q2.out.below B6) (by unfold maxLen; omega) (by omega) (z6) ?_; intro v7 w7 hr7 hg7 hat7; have B7 : Below w4.heap.size w4 w7 := Below.grown B6 hg7 (by first | omega | (simp; done) | (simp; omega)) (fun q hq => (r6.lt q hq).1); have r7 : w7.ownsRow w4.heap.size 43 7 v7 (c + 1 + 0) ((ol.take c).flatMap encPick ++ encPick s ++ []) := hr7; have z7 := B7.size; clear hr7 hg7 hat7))
        all_goals
          have h71 : c + 1 + 0 = c + 1 := by omega
          rw [h71] at r7
          obtain ⟨g7, cap7, rfl, hc7, hm7, hL7, -⟩ := row_some r7 (by omega)
          have r8 : w7.ownsRow w1.heap.size 43 7 (.slice (some ⟨g7, 0, none⟩) (c + 1) cap7) (c + 1) ((ol.take c ++ s :: ol.drop c).flatMap encPick) := by
            have := Go.Joins.ownsRow_le r7 (base' := w1.heap.size) (by omega)
            simpa [List.flatMap_append, List.flatMap_cons, List.append_assoc, hd9] using this
          have C7 : Below w1.heap.size w1 w7 := hbl.trans ((hbx.trans (B7.mono hbx.size)).mono hsz)
          have HOL2 : Hid ((ol.take c ++ s :: ol.drop c).length = c + 1) := Lib.hid (by rw [List.length_append, List.length_cons, List.length_take, List.length_drop, HOL.out]; omega)
          clear r7 h71
          go_wp2
          go_roundw
          case rel => exact ⟨k + 1, c + 1, _, g7, cap7, by omega, by omega, by go_num, rfl, HSF2, HOL2, r8, hc7, hm7, C7⟩
          case measure => simp [intOf]; omega
      have HSF2 := Lib.hid (soFar_succ HGL.out HSF.out HS.out HCU.out HM.out HL.out (by rw [HOL.out]; exact hm))
      have hx4 := hbx.size
      have hm0 : (0 : Int) ≤ (m : Int) := by omega
      have hm1 : (m : Int) ≤ (c : Int) := by omega
      have hcm5 : (m : Int) ≤ (ocap : Int) := by omega
      have hcm6 : m ≤ ocap := by omega
      have hrow4 := row_below hrow2 hb4
      have e0 := cellOf hb4 (cell_of_lt d0) d0
      have e1 := cellOf hb4 (cell_of_lt d1) d1
      have e2 := cellOf hb4 (cell_of_lt d2) d2
      have e3 := cellOf hb4 (cell_of_lt d3) d3
      have e4 := cellOf hb4 (cell_of_lt d4) d4
      have e5 := cellOf hb4 (cell_of_lt d5) d5
      have e6 := cellOf hb4 (cell_of_lt d6) d6
      have KA : Below w4.heap.size w4 (w4.alloc (.cells #[] 43)).drew := ((Below.refl _ _).alloc (Nat.le_refl _) _).drew
      have KA1 : Below w4.heap.size w4 ((w4.alloc (.cells #[] 43)).alloc (.cells #[.int .i64 s.pId, .int .i64 s.pStation, .int .i64 s.pWave, .int .i64 s.pTick, .int .i64 s.pError, .int .i64 s.pBy, .int .i64 s.pAfter] 43)).drew := (((Below.refl _ _).alloc (Nat.le_refl _) _).alloc (by first | omega | (simp; done) | (simp; omega)) _).drew
      have KB : Below w4.heap.size w4 (w4.alloc (.cells #[.int .i64 s.pId, .int .i64 s.pStation, .int .i64 s.pWave, .int .i64 s.pTick, .int .i64 s.pError, .int .i64 s.pBy, .int .i64 s.pAfter] 43)).drew := ((Below.refl _ _).alloc (Nat.le_refl _) _).drew
      have KB0 : Below w4.heap.size w4 ((w4.alloc (.cells #[.int .i64 s.pId, .int .i64 s.pStation, .int .i64 s.pWave, .int .i64 s.pTick, .int .i64 s.pError, .int .i64 s.pBy, .int .i64 s.pAfter] 43)).alloc (.cells #[] 43)).drew := (((Below.refl _ _).alloc (Nat.le_refl _) _).alloc (by first | omega | (simp; done) | (simp; omega)) _).drew
      have rA : (w4.alloc (.cells #[] 43)).drew.ownsRow w4.heap.size 43 7 (.slice (some ⟨w4.heap.size, 0, none⟩) 0 0) 0 [] := rowK_empty w4 _ _ (Nat.le_refl _)
      have rA1 : ((w4.alloc (.cells #[] 43)).alloc (.cells #[.int .i64 s.pId, .int .i64 s.pStation, .int .i64 s.pWave, .int .i64 s.pTick, .int .i64 s.pError, .int .i64 s.pBy, .int .i64 s.pAfter] 43)).drew.ownsRow w4.heap.size 43 7 (.slice (some ⟨w4.heap.size, 0, none⟩) 0 0) 0 [] := (rowK_empty w4 _ _ (Nat.le_refl _)).alloc _
      have rB0 : ((w4.alloc (.cells #[.int .i64 s.pId, .int .i64 s.pStation, .int .i64 s.pWave, .int .i64 s.pTick, .int .i64 s.pError, .int .i64 s.pBy, .int .i64 s.pAfter] 43)).alloc (.cells #[] 43)).drew.ownsRow w4.heap.size 43 7 (.slice (some ⟨w4.heap.size + 1, 0, none⟩) 0 0) 0 [] := by
        have h9 : ((w4.alloc (.cells #[.int .i64 s.pId, .int .i64 s.pStation, .int .i64 s.pWave, .int .i64 s.pTick, .int .i64 s.pError, .int .i64 s.pBy, .int .i64 s.pAfter] 43)).alloc (.cells #[] 43)).ownsRow w4.heap.size 43 7 (.slice (some ⟨w4.heap.size + 1, 0, none⟩) 0 0) 0 [] := by
          have := rowK_empty (w4.alloc (.cells #[.int .i64 s.pId, .int .i64 s.pStation, .int .i64 s.pWave, .int .i64 s.pTick, .int .i64 s.pError, .int .i64 s.pBy, .int .i64 s.pAfter] 43)) (base := w4.heap.size) 43 7 (by first | omega | (simp; done) | (simp; omega))
          simpa using this
        exact h9
      have bA1 : Bx ((w4.alloc (.cells #[] 43)).alloc (.cells #[.int .i64 s.pId, .int .i64 s.pStation, .int .i64 s.pWave, .int .i64 s.pTick, .int .i64 s.pError, .int .i64 s.pBy, .int .i64 s.pAfter] 43)).drew (w4.heap.size + 1) (encPick s) := Bx.new1 w4 (.cells #[] 43) (encPick s) 43
      have bB0 : Bx ((w4.alloc (.cells #[.int .i64 s.pId, .int .i64 s.pStation, .int .i64 s.pWave, .int .i64 s.pTick, .int .i64 s.pError, .int .i64 s.pBy, .int .i64 s.pAfter] 43)).alloc (.cells #[] 43)).drew w4.heap.size (encPick s) := (Bx.new w4 (encPick s) 43).alloc _
      have q1 : SrcK w4 7 (.slice (some ⟨g, 0, none⟩) m ocap) m ((ol.take m).flatMap encPick) := by
        have := row_part hrow4 (onePick ol) 0 m ocap (Nat.zero_le _) hm
        simpa [flat_take encPick_len] using this
      have q2 : SrcK w4 7 (.slice (some ⟨g, m * 7, none⟩) (c - m) (ocap - m)) (c - m) ((ol.drop m).flatMap encPick) := by
        have := row_part hrow4 (onePick ol) m c (ocap - m) hm (Nat.le_refl _)
        rwa [flat_drop encPick_len, List.take_of_length_le (by rw [flat_len encPick_len, List.length_drop, HOL.out]; exact Nat.le_refl _)] at this
      have one1 : ∀ u ∈ encPick s, u.oneCell' = true := by intro u hu; exact onePick [s] u (by simpa using hu)
      have hS : ∀ w', Below w4.heap.size w4 w' → Below w4.heap.size w4 w' ∧ w'.cell? ⟨b, off + k * 7, none⟩ = some (.int .i64 s.pId) ∧ w'.cell? ⟨b, off + k * 7 + 1, none⟩ = some (.int .i64 s.pStation) ∧ w'.cell? ⟨b, off + k * 7 + 2, none⟩ = some (.int .i64 s.pWave) ∧ w'.cell? ⟨b, off + k * 7 + 3, none⟩ = some (.int .i64 s.pTick) ∧ w'.cell? ⟨b, off + k * 7 + 4, none⟩ = some (.int .i64 s.pError) ∧ w'.cell? ⟨b, off + k * 7 + 5, none⟩ = some (.int .i64 s.pBy) ∧ w'.cell? ⟨b, off + k * 7 + 6, none⟩ = some (.int .i64 s.pAfter) := fun w' q => ⟨q, cellOf q (cell_of_lt e0) e0, cellOf q (cell_of_lt e1) e1, cellOf q (cell_of_lt e2) e2, cellOf q (cell_of_lt e3) e3, cellOf q (cell_of_lt e4) e4, cellOf q (cell_of_lt e5) e5, cellOf q (cell_of_lt e6) e6⟩
      have HS0 := Lib.hid hS
      have Q1 := Lib.hid q1
      have Q2 := Lib.hid q2
      have ONE := Lib.hid one1
      clear hS q1 q2 one1
      have hcm : ¬ m = ocap := hcapm
      have hcm4 : ¬ ocap = m := fun h => hcapm h.symm
      have hcm7 : (c : Int) ≤ (ocap : Int) := by omega
      have hcm8 : ¬ (ocap : Int) < (m : Int) := by omega
      have hcm9 : ¬ (c : Int) < (m : Int) := by omega
      have hcm2 : (m : Int) ≤ (c : Int) := hm1
      have hcm3 : m ≤ c := hm
      go_wp2
      go_region_held3 (fun w' => Below w4.heap.size w4 w' ∧ w'.cell? ⟨b, off + k * 7, none⟩ = some (.int .i64 s.pId) ∧ w'.cell? ⟨b, off + k * 7 + 1, none⟩ = some (.int .i64 s.pStation) ∧ w'.cell? ⟨b, off + k * 7 + 2, none⟩ = some (.int .i64 s.pWave) ∧ w'.cell? ⟨b, off + k * 7 + 3, none⟩ = some (.int .i64 s.pTick) ∧ w'.cell? ⟨b, off + k * 7 + 4, none⟩ = some (.int .i64 s.pError) ∧ w'.cell? ⟨b, off + k * 7 + 5, none⟩ = some (.int .i64 s.pBy) ∧ w'.cell? ⟨b, off + k * 7 + 6, none⟩ = some (.int .i64 s.pAfter))
        (first
          | exact HS0.out _ (Below.refl _ _).drew
          | exact HS0.out _ (by with_reducible assumption))
        (first
          | (refine step_append_srcK (((w4.alloc (.cells #[] 43)).alloc (.cells #[.int .i64 s.pId, .int .i64 s.pStation, .int .i64 s.pWave, .int .i64 s.pTick, .int .i64 s.pError, .int .i64 s.pBy, .int .i64 s.pAfter] 43)).drew) (by rfl) _ _ _ (by rfl) w4.heap.size 43 ti (.agg #[.int .i64 0, .int .i64 0, .int .i64 0, .int .i64 0, .int .i64 0, .int .i64 0, .int .i64 0]) 7 56 Try.underlying24 hi hz0 hz1 hz2 rfl (by decide) _ (0) ([]) (by rfl) (rA1) _ (m) _ (by rfl) (Q1.out.below KA1) (by unfold maxLen; omega) (by omega) (by first | omega | (simp; done) | (simp; omega)) ?_; intro v5 w5 hr5 hg5 hat5; have B5 : Below w4.heap.size w4 w5 := Below.grown KA1 hg5 (by first | omega | (simp; done) | (simp; omega)) (by intro q hq; cases hq; simp); have r5 : w5.ownsRow w4.heap.size 43 7 v5 m ((ol.take m).flatMap encPick) := (by simpa using hr5); have z5 := B5.size; have b5 := bA1.grown (row := some w4.heap.size) hg5 (by simp); clear hr5 hg5 hat5)
          | (refine step_append_srcK (((w4.alloc (.cells #[.int .i64 s.pId, .int .i64 s.pStation, .int .i64 s.pWave, .int .i64 s.pTick, .int .i64 s.pError, .int .i64 s.pBy, .int .i64 s.pAfter] 43)).alloc (.cells #[] 43)).drew) (by rfl) _ _ _ (by rfl) w4.heap.size 43 ti (.agg #[.int .i64 0, .int .i64 0, .int .i64 0, .int .i64 0, .int .i64 0, .int .i64 0, .int .i64 0]) 7 56 Try.underlying24 hi hz0 hz1 hz2 rfl (by decide) _ (0) ([]) (by rfl) (rB0) _ (m) _ (by rfl) (Q1.out.below KB0) (by unfold maxLen; omega) (by omega) (by first | omega | (simp; done) | (simp; omega)) ?_; intro v5 w5 hr5 hg5 hat5; have B5 : Below w4.heap.size w4 w5 := Below.grown KB0 hg5 (by first | omega | (simp; done) | (simp; omega)) (by intro q hq; cases hq; simp); have r5 : w5.ownsRow w4.heap.size 43 7 v5 m ((ol.take m).flatMap encPick) := (by simpa using hr5); have z5 := B5.size; have b5 := bB0.grown (row := some (w4.heap.size + 1)) hg5 (by simp); clear hr5 hg5 hat5)
          | (refine step_append_srcK ((w4.alloc (.cells #[] 43)).drew) (by rfl) _ _ _ (by rfl) w4.heap.size 43 ti (.agg #[.int .i64 0, .int .i64 0, .int .i64 0, .int .i64 0, .int .i64 0, .int .i64 0, .int .i64 0]) 7 56 Try.underlying24 hi hz0 hz1 hz2 rfl (by decide) _ (0) ([]) (by rfl) (rA) _ (m) _ (by rfl) (Q1.out.below KA) (by unfold maxLen; omega) (by omega) (by first | omega | (simp; done) | (simp; omega)) ?_; intro v5 w5 hr5 hg5 hat5; have B5 : Below w4.heap.size w4 w5 := Below.grown KA hg5 (by first | omega | (simp; done) | (simp; omega)) (by intro q hq; cases hq; simp); have r5 : w5.ownsRow w4.heap.size 43 7 v5 m ((ol.take m).flatMap encPick) := (by simpa using hr5); have z5 := B5.size; have K5 : Below w4.heap.size w4 (w5.alloc (.cells #[.int .i64 s.pId, .int .i64 s.pStation, .int .i64 s.pWave, .int .i64 s.pTick, .int .i64 s.pError, .int .i64 s.pBy, .int .i64 s.pAfter] 43)) := B5.alloc B5.size _; have b5V : Bx (w5.alloc (.cells #[.int .i64 s.pId, .int .i64 s.pStation, .int .i64 s.pWave, .int .i64 s.pTick, .int .i64 s.pError, .int .i64 s.pBy, .int .i64 s.pAfter] 43)) w5.heap.size (encPick s) := Bx.new w5 (encPick s) 43; clear hr5 hg5 hat5)
          | (refine step_append_srcK (w5) (by rfl) _ _ _ (by rfl) w4.heap.size 43 ti (.agg #[.int .i64 0, .int .i64 0, .int .i64 0, .int .i64 0, .int .i64 0, .int .i64 0, .int .i64 0]) 7 56 Try.underlying24 hi hz0 hz1 hz2 rfl (by decide) _ (m) ((ol.take m).flatMap encPick) (by rfl) (r5) _ (1) _ (by rfl) (srcK_box b5 ONE.out) (by unfold maxLen; omega) (by omega) (z5) ?_; intro v6 w6 hr6 hg6 hat6; have B6 : Below w4.heap.size w4 w6 := Below.grown B5 hg6 (by first | omega | (simp; done) | (simp; omega)) (fun q hq => (r5.lt q hq).1); have r6 : w6.ownsRow w4.heap.size 43 7 v6 (m + 1) ((ol.take m).flatMap encPick ++ encPick s) := hr6; have z6 := B6.size; clear hr6 hg6 hat6)
          | (refine step_append_srcK (w5.alloc (.cells #[.int .i64 s.pId, .int .i64 s.pStation, .int .i64 s.pWave, .int .i64 s.pTick, .int .i64 s.pError, .int .i64 s.pBy, .int .i64 s.pAfter] 43)) (by rfl) _ _ _ (by rfl) w4.heap.size 43 ti (.agg #[.int .i64 0, .int .i64 0, .int .i64 0, .int .i64 0, .int .i64 0, .int .i64 0, .int .i64 0]) 7 56 Try.underlying24 hi hz0 hz1 hz2 rfl (by decide) _ (m) ((ol.take m).flatMap encPick) (by rfl) (r5.alloc _) _ (1) _ (by rfl) (srcK_box b5V ONE.out) (by unfold maxLen; omega) (by omega) (by first | omega | (simp; done) | (simp; omega)) ?_; intro v6 w6 hr6 hg6 hat6; have B6 : Below w4.heap.size w4 w6 := Below.grown K5 hg6 (by first | omega | (simp; done) | (simp; omega)) (fun q hq => (r5.lt q hq).1); have r6 : w6.ownsRow w4.heap.size 43 7 v6 (m + 1) ((ol.take m).flatMap encPick ++ encPick s) := hr6; have z6 := B6.size; clear hr6 hg6 hat6)
          | (refine step_append_srcK (w6) (by rfl) _ _ _ (by rfl) w4.heap.size 43 ti (.agg #[.int .i64 0, .int .i64 0, .int .i64 0, .int .i64 0, .int .i64 0, .int .i64 0, .int .i64 0]) 7 56 Try.underlying24 hi hz0 hz1 hz2 rfl (by decide) _ (m + 1) ((ol.take m).flatMap encPick ++ encPick s) (by rfl) (r6) _ (c - m) _ (by rfl) (Q2.out.below B6) (by unfold maxLen; omega) (by omega) (z6) ?_; intro v7 w7 hr7 hg7 hat7; have B7 : Below w4.heap.size w4 w7 := Below.grown B6 hg7 (by first | omega | (simp; done) | (simp; omega)) (fun q hq => (r6.lt q hq).1); have r7 : w7.ownsRow w4.heap.size 43 7 v7 (m + 1 + (c - m)) ((ol.take m).flatMap encPick ++ encPick s ++ (ol.drop m).flatMap encPick) := hr7; have z7 := B7.size; clear hr7 hg7 hat7))
      all_goals
        have h71 : m + 1 + (c - m) = c + 1 := by omega
        rw [h71] at r7
        obtain ⟨g7, cap7, rfl, hc7, hm7, hL7, -⟩ := row_some r7 (by omega)
        have r8 : w7.ownsRow w1.heap.size 43 7 (.slice (some ⟨g7, 0, none⟩) (c + 1) cap7) (c + 1) ((ol.take m ++ s :: ol.drop m).flatMap encPick) := by
          have := Go.Joins.ownsRow_le r7 (base' := w1.heap.size) (by omega)
          simpa [List.flatMap_append, List.flatMap_cons, List.append_assoc] using this
        have C7 : Below w1.heap.size w1 w7 := hbl.trans ((hbx.trans (B7.mono hbx.size)).mono hsz)
        have HOL2 : Hid ((ol.take m ++ s :: ol.drop m).length = c + 1) := Lib.hid (by rw [List.length_append, List.length_cons, List.length_take, List.length_drop, HOL.out]; omega)
        clear r7 h71
        go_wp2
        go_roundw
        case rel => exact ⟨k + 1, c + 1, _, g7, cap7, by omega, by omega, by go_num, rfl, HSF2, HOL2, r8, hc7, hm7, C7⟩
        case measure => simp [intOf]; omega
end Go.Proofs.Ytoimoaeaejbfdaa
