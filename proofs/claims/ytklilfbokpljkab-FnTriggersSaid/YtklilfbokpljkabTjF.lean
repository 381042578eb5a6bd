/- Triggers: the program's lists of times. -/
import Derived.Test.YtklilfbokpljkabTjE
namespace Go.Proofs.Ytklilfbokpljkab
open Go.ChangeShapes Go.WideShapes Go.ChangeAt Go.RowKit Go.ChangeMaps Go.Sort Go.Shelf
set_option linter.unusedSimpArgs false
set_option linter.unusedVariables false
set_option linter.unusedSimpArgs false
set_option linter.unusedVariables false

set_option maxRecDepth 100000 in
set_option maxHeartbeats 4000000 in
theorem implTrg (xs : List Int) (v : Value) (s : GSetting) (v2 : Value) (w : World) (B : Nat) (h : Lst (Value.int .i64) w B v xs) (h2 : SettingVL w B v2 s) (hB : B ≤ w.heap.size) (hn : xs.length ≤ 1048576) (_ : sz1Setting s ≤ 1048576) (hw : wfSetting s) :
    Calls Try.prog 35 #[v, v2] w fun e w' => ∃ v', e = .returned (.tuple #[v', .bool (goodTg xs s)]) ∧ IntA2SO w' w.heap.size w'.heap.size v' (trgT xs s) ∧ Below w.heap.size w w' := by
  obtain rfl := h2.form
  clear h2
  have N0 := (Below.refl w.heap.size w).alloc (Nat.le_refl _) (.cells #[.int .i64 s.pShort, .int .i64 s.pLong, .int .i64 s.pOn, .int .i64 s.pOff] 28)
  have bs := Bx.new w [.int .i64 s.pShort, .int .i64 s.pLong, .int .i64 s.pOn, .int .i64 s.pOff] 28
  have CY := Lib.hid (triggerForT xs v s _ B (h.below (N0.mono hB)) (Nat.le_trans hB N0.size) hw)
  have CN := Lib.hid (triggerNoT xs v s _ B (h.below (N0.mono hB)) (Nat.le_trans hB N0.size) hw)
  cases hg : goodTg xs s with
  | false =>
    have C := Lib.hid (CN.out hg)
    have HF : Hid (trgT xs s = []) := Lib.hid (by unfold trgT; rw [hg]; rfl)
    obtain ⟨ao, cap, rfl⟩ := h.form
    clear h CY CN hg
    go_enter Try.func35, Try.ntmps35
    go_wp2_with fail
    refine C.out.mono ?_
    rintro e w1 ⟨rfl, hb⟩
    have M1 := N0.trans (hb.mono N0.size)
    have M2 := M1.alloc M1.size (.cells #[.slice none 0 0, .int .i64 0, .int .i64 0, .int .i64 0, .int .i64 0] 78)
    go_wp2
    go_ret2
    refine ⟨_, rfl, ?_, M2.alloc M2.size _⟩
    rw [HF.out]
    have e9 := ownK_empty encA2_len (by omega) (w1.alloc (.cells #[.slice none 0 0, .int .i64 0, .int .i64 0, .int .i64 0, .int .i64 0] 78)) (L := w.heap.size) 55 M2.size
    simpa using e9
  | true =>
    have C := Lib.hid (CY.out hg)
    obtain ⟨hx, hs⟩ := goodTg_yes hg
    have hl24 := (okL_yes hx).2
    have HF : Hid (trgT xs s = timesT xs s) := Lib.hid (by unfold trgT; rw [hg]; rfl)
    obtain ⟨ao, cap, rfl⟩ := h.form
    have CT := Lib.hid (fun W (q : Below w.heap.size w W) => timesOfT xs ao cap s W B (h.below (q.mono hB)) (Nat.le_trans hB q.size) hx hs)
    clear h CY CN hg hx hs
    go_enter Try.func35, Try.ntmps35
    go_wp2_with fail
    refine C.out.mono ?_
    rintro e w1 ⟨he, hb⟩
    obtain rfl := he ao cap rfl
    clear he
    have M1 := N0.trans (hb.mono N0.size)
    have hw01 : w.heap.size < w1.heap.size := Nat.lt_of_lt_of_le (by simp) hb.size
    obtain ⟨W1, hW1⟩ : ∃ W1, w1.alloc (.cells #[.slice ao xs.length cap, .int .i64 s.pShort, .int .i64 s.pLong, .int .i64 s.pOn, .int .i64 s.pOff] 78) = W1 := ⟨_, rfl⟩
    have N1 : Below w.heap.size w W1 := hW1 ▸ M1.alloc M1.size _
    have bt : Bx W1 w1.heap.size (celT ao xs.length cap s) := hW1 ▸ Bx.new w1 (celT ao xs.length cap s) 78
    have bs1 : Bx W1 w.heap.size [.int .i64 s.pShort, .int .i64 s.pLong, .int .i64 s.pOn, .int .i64 s.pOff] := hW1 ▸ (bs.below hb).alloc _
    clear hb M1 bs N0 C
    have c0 := bt.2 0 _ rfl
    have c1 := bt.2 1 _ rfl
    have c2 := bt.2 2 _ rfl
    have c3 := bt.2 3 _ rfl
    have c4 := bt.2 4 _ rfl
    have d0 := bs1.2 0 _ rfl
    have d1 := bs1.2 1 _ rfl
    have d2 := bs1.2 2 _ rfl
    have d3 := bs1.2 3 _ rfl
    go_wp2_with fail
    clear hW1
    refine (CT.out _ N1).mono ?_
    rintro e w2 ⟨v', rfl, hO, hb⟩
    obtain ⟨ao2, cap2, rfl⟩ := hO.form
    go_wp2
    go_ret2
    exact ⟨_, rfl, by rw [HF.out]; exact hO.mono N1.size (Nat.le_refl _), N1.trans (hb.mono N1.size)⟩
set_option maxRecDepth 100000 in
set_option maxHeartbeats 4000000 in
theorem implOns (xs : List Int) (v : Value) (s : GSetting) (v2 : Value) (w : World) (B : Nat) (h : Lst (Value.int .i64) w B v xs) (h2 : SettingVL w B v2 s) (hB : B ≤ w.heap.size) (hn : xs.length ≤ 1048576) (_ : sz1Setting s ≤ 1048576) (hw : wfSetting s) :
    Calls Try.prog 29 #[v, v2] w fun e w' => ∃ v', e = .returned (.tuple #[v', .bool (goodTg xs s)]) ∧ Own (Value.int .i64) w' w.heap.size w'.heap.size v' (onsT xs s) ∧ Below w.heap.size w w' := by
  obtain rfl := h2.form
  clear h2
  have N0 := (Below.refl w.heap.size w).alloc (Nat.le_refl _) (.cells #[.int .i64 s.pShort, .int .i64 s.pLong, .int .i64 s.pOn, .int .i64 s.pOff] 28)
  have bs := Bx.new w [.int .i64 s.pShort, .int .i64 s.pLong, .int .i64 s.pOn, .int .i64 s.pOff] 28
  have CY := Lib.hid (triggerForT xs v s _ B (h.below (N0.mono hB)) (Nat.le_trans hB N0.size) hw)
  have CN := Lib.hid (triggerNoT xs v s _ B (h.below (N0.mono hB)) (Nat.le_trans hB N0.size) hw)
  cases hg : goodTg xs s with
  | false =>
    have C := Lib.hid (CN.out hg)
    have HF : Hid (onsT xs s = []) := Lib.hid (by unfold onsT; rw [hg]; rfl)
    obtain ⟨ao, cap, rfl⟩ := h.form
    clear h CY CN hg
    go_enter Try.func29, Try.ntmps29
    go_wp2_with fail
    refine C.out.mono ?_
    rintro e w1 ⟨rfl, hb⟩
    have M1 := N0.trans (hb.mono N0.size)
    have M2 := M1.alloc M1.size (.cells #[.slice none 0 0, .int .i64 0, .int .i64 0, .int .i64 0, .int .i64 0] 78)
    go_wp2
    go_ret2
    refine ⟨_, rfl, ?_, M2.alloc M2.size _⟩
    rw [HF.out]
    have e9 := own_empty (en := Value.int .i64) (w1.alloc (.cells #[.slice none 0 0, .int .i64 0, .int .i64 0, .int .i64 0, .int .i64 0] 78)) (L := w.heap.size) 3 M2.size
    simpa using e9
  | true =>
    have C := Lib.hid (CY.out hg)
    obtain ⟨hx, hs⟩ := goodTg_yes hg
    have hl24 := (okL_yes hx).2
    have HF : Hid (onsT xs s = (timesT xs s).map (·.1)) := Lib.hid (by unfold onsT; rw [hg]; rfl)
    have htl := timesT_len xs s
    obtain ⟨ti, hi, hy0, hy1, hy2⟩ := info_parts infoInt
    obtain ⟨ao, cap, rfl⟩ := h.form
    have CT := Lib.hid (fun W (q : Below w.heap.size w W) => timesOfT xs ao cap s W B (h.below (q.mono hB)) (Nat.le_trans hB q.size) hx hs)
    generalize onsT xs s = ons at *
    generalize timesT xs s = tms at *
    clear h CY CN hg hx hs
    go_enter Try.func29, Try.ntmps29
    go_wp2_with fail
    refine C.out.mono ?_
    rintro e w1 ⟨he, hb⟩
    obtain rfl := he ao cap rfl
    clear he
    have M1 := N0.trans (hb.mono N0.size)
    have hw01 : w.heap.size < w1.heap.size := Nat.lt_of_lt_of_le (by simp) hb.size
    obtain ⟨W1, hW1⟩ : ∃ W1, w1.alloc (.cells #[.slice ao xs.length cap, .int .i64 s.pShort, .int .i64 s.pLong, .int .i64 s.pOn, .int .i64 s.pOff] 78) = W1 := ⟨_, rfl⟩
    have N1 : Below w.heap.size w W1 := hW1 ▸ M1.alloc M1.size _
    have bt : Bx W1 w1.heap.size (celT ao xs.length cap s) := hW1 ▸ Bx.new w1 (celT ao xs.length cap s) 78
    have bs1 : Bx W1 w.heap.size [.int .i64 s.pShort, .int .i64 s.pLong, .int .i64 s.pOn, .int .i64 s.pOff] := hW1 ▸ (bs.below hb).alloc _
    clear hb M1 bs N0 C
    have c0 := bt.2 0 _ rfl
    have c1 := bt.2 1 _ rfl
    have c2 := bt.2 2 _ rfl
    have c3 := bt.2 3 _ rfl
    have c4 := bt.2 4 _ rfl
    have d0 := bs1.2 0 _ rfl
    have d1 := bs1.2 1 _ rfl
    have d2 := bs1.2 2 _ rfl
    have d3 := bs1.2 3 _ rfl
    have hr0 := row_empty W1 (base := w.heap.size) 3 1 N1.size
    have bt1 := bt.alloc (.cells #[] 3)
    have N2 := N1.alloc N1.size (.cells #[] 3)
    have hz0 : W1.heap.size < (W1.alloc (.cells #[] 3)).heap.size := by simp
    have e0 := bt1.2 0 _ rfl
    have e1 := bt1.2 1 _ rfl
    have e2 := bt1.2 2 _ rfl
    have e3 := bt1.2 3 _ rfl
    have e4 := bt1.2 4 _ rfl
    go_wp2_with fail
    clear hW1
    refine (CT.out _ N2).mono ?_
    rintro e w2 ⟨v', rfl, hO, hb⟩
    have hr2 := row_below hr0 hb
    have B2 := N2.trans (hb.mono N2.size)
    obtain ⟨ao2, cap2, rfl⟩ := hO.form
    have hS := SideT.of hO (row := some W1.heap.size) (fun g e => by cases e; exact hz0)
    clear e0 e1 e2 e3 e4 bt1 bt bs1 hb hr0 hO N1 N2 hz0
    clear c0 c1 c2 c3 c4 d0 d1 d2 d3
    go_wp2
    go_loopw [8, 24] (fun o i wr => ∃ (k : Nat) (g cp : Nat), k ≤ tms.length ∧ i = .int .i64 k ∧ o = .slice (some ⟨g, 0, none⟩) k cp ∧ wr.ownsRow w.heap.size 3 1 (.slice (some ⟨g, 0, none⟩) k cp) k (((tms.map (·.1)).take k).map (Value.int .i64)) ∧ SideT wr (some g) ao2 tms ∧ Below w.heap.size w wr) (fun _ i _ => tms.length - (intOf i).toNat)
    case atStart => exact ⟨0, _, _, Nat.zero_le _, rfl, rfl, hr2, hS, B2⟩
    case round =>
      obtain ⟨k, g, cp, hk, rfl, rfl, hrow, hS2, hbl⟩ := hrel
      clear hr2 hS B2
      have hsz := hbl.size
      by_cases hlt : k < tms.length
      case neg =>
        obtain rfl : k = tms.length := by omega
        have HE : Hid (tms.map (·.1) = ons) := Lib.hid HF.out.symm
        have := Own.of_row hrow
        rw [List.take_of_length_le (by simp), HE.out] at this
        have HO := Lib.hid this
        clear this
        go_wp2
        go_ret2
        exact ⟨_, rfl, HO.out, hbl⟩
      obtain ⟨q, hq⟩ := get_of_lt hlt
      obtain ⟨b, off, rfl, hblt, hne, hce⟩ := hS2 k q hq
      have HR2 : Hid (((tms.map (·.1)).take (k + 1)).map (Value.int .i64) = ((tms.map (·.1)).take k).map (Value.int .i64) ++ [.int .i64 q.1]) := Lib.hid (by rw [take_snoc (x := q.1) (by rw [List.getElem?_map, hq]; rfl), List.map_append]; rfl)
      have e0 : wr.cell? ⟨b, off + k * 2, none⟩ = some (.int .i64 q.1) := hce 0 _ rfl
      have e1 : wr.cell? ⟨b, off + k * 2 + 1, none⟩ = some (.int .i64 q.2) := hce 1 _ rfl
      have hk0 : (0 : Int) ≤ (k : Int) := by omega
      have hk1 : (k : Int) < (tms.length : Int) := by omega
      clear hq hce
      generalize ((tms.map (·.1)).take k).map (Value.int .i64) = rr at *
      go_wp2_with (at_builtin; refine wpList_append_srcK _ rfl _ _ 22 rfl w.heap.size 3 ti (.int .i64 0) 1 8 Try.underlying22 hi hy0 hy1 hy2 rfl (by decide) _ k rr rfl ((hrow.alloc _).alloc _) _ 1 [.int .i64 q.1] rfl (srcK_box (cs := [.int .i64 q.1]) (Bx.new1 wr _ [.int .i64 q.1] _) (by simp [Value.oneCell'])) (by unfold maxLen; omega) (by omega) (by simp; omega) ?_; intro v' w5 hown hgrow hob)
      have hbl5 : Below w.heap.size w w5 := ((hbl.alloc hsz (.cells #[.int .i64 q.1, .int .i64 q.2] 55)).alloc (by simp; omega) (.cells #[.int .i64 q.1] 3)).grown hgrow (by simp; omega) (fun g e => (hrow.lt g e).1)
      obtain ⟨g5, cp5, rfl, -, -, -, -⟩ := row_some hown (by omega)
      have hS5 : SideT w5 (some g5) (some ⟨b, off, none⟩) tms := ((hS2.alloc (.cells #[.int .i64 q.1, .int .i64 q.2] 55)).alloc (.cells #[.int .i64 q.1] 3)).grown hgrow hob
      have hrow5 : w5.ownsRow w.heap.size 3 1 (.slice (some ⟨g5, 0, none⟩) (k + 1) cp5) (k + 1) (((tms.map (·.1)).take (k + 1)).map (Value.int .i64)) := by rw [HR2.out]; exact hown
      clear hown hgrow hob hrow hS2 hbl
      go_wp2
      go_roundw
      case rel => exact ⟨k + 1, g5, cp5, by omega, by go_num, rfl, hrow5, hS5, hbl5⟩
      case measure => simp [intOf]; omega
set_option maxRecDepth 100000 in
set_option maxHeartbeats 4000000 in
theorem implIoa (xs : List Int) (v : Value) (s : GSetting) (v2 : Value) (p : Int) (w : World) (B : Nat) (h : Lst (Value.int .i64) w B v xs) (h2 : SettingVL w B v2 s) (hB : B ≤ w.heap.size) (hn : xs.length ≤ 1048576) (_ : sz1Setting s ≤ 1048576) (hw : wfSetting s) (hip : I64 p) :
    Calls Try.prog 23 #[v, v2, .int .i64 p] w fun e w' => e = .returned (.tuple #[.bool (isOnT xs s p), .bool (okAt xs s p)]) ∧ Below w.heap.size w w' := by
  obtain rfl := h2.form
  clear h2
  have N0 := (Below.refl w.heap.size w).alloc (Nat.le_refl _) (.cells #[.int .i64 s.pShort, .int .i64 s.pLong, .int .i64 s.pOn, .int .i64 s.pOff] 28)
  have bs := Bx.new w [.int .i64 s.pShort, .int .i64 s.pLong, .int .i64 s.pOn, .int .i64 s.pOff] 28
  have CY := Lib.hid (triggerForT xs v s _ B (h.below (N0.mono hB)) (Nat.le_trans hB N0.size) hw)
  have CN := Lib.hid (triggerNoT xs v s _ B (h.below (N0.mono hB)) (Nat.le_trans hB N0.size) hw)
  cases hg : goodTg xs s with
  | false =>
    have C := Lib.hid (CN.out hg)
    have HF := Lib.hid (noAt (xs := xs) (s := s) (p := p) (by unfold okAt; rw [hg]; rfl))
    obtain ⟨ao, cap, rfl⟩ := h.form
    clear h CY CN hg
    go_enter Try.func23, Try.ntmps23
    go_wp2_with fail
    refine C.out.mono ?_
    rintro e w1 ⟨rfl, hb⟩
    have M1 := N0.trans (hb.mono N0.size)
    have M2 := M1.alloc M1.size (.cells #[.slice none 0 0, .int .i64 0, .int .i64 0, .int .i64 0, .int .i64 0] 78)
    go_wp2
    go_ret2
    exact ⟨HF.out, M2⟩
  | true =>
    have C := Lib.hid (CY.out hg)
    obtain ⟨hx, hs⟩ := goodTg_yes hg
    have hl24 := (okL_yes hx).2
    by_cases hp : 0 ≤ p ∧ p ≤ (xs.length : Int) - 1
    case neg =>
      have HF := Lib.hid (noAt (xs := xs) (s := s) (p := p) (by unfold okAt; rw [decide_eq_false hp, Bool.and_false]))
      have CI := Lib.hid (fun b W hb => withinOneQ 0 ((xs.length : Int) - 1) p b false W hb (decide_eq_false hp))
      obtain ⟨ao, cap, rfl⟩ := h.form
      clear h CY CN hg hx hs hp
      go_enter Try.func23, Try.ntmps23
      go_wp2_with fail
      refine C.out.mono ?_
      rintro e w1 ⟨he, hb⟩
      obtain rfl := he ao cap rfl
      clear he
      have M1 := N0.trans (hb.mono N0.size)
      have hw01 : w.heap.size < w1.heap.size := Nat.lt_of_lt_of_le (by simp) hb.size
      obtain ⟨W1, hW1⟩ : ∃ W1, w1.alloc (.cells #[.slice ao xs.length cap, .int .i64 s.pShort, .int .i64 s.pLong, .int .i64 s.pOn, .int .i64 s.pOff] 78) = W1 := ⟨_, rfl⟩
      have N1 : Below w.heap.size w W1 := hW1 ▸ M1.alloc M1.size _
      have bt : Bx W1 w1.heap.size (celT ao xs.length cap s) := hW1 ▸ Bx.new w1 (celT ao xs.length cap s) 78
      have bs1 : Bx W1 w.heap.size [.int .i64 s.pShort, .int .i64 s.pLong, .int .i64 s.pOn, .int .i64 s.pOff] := hW1 ▸ (bs.below hb).alloc _
      clear hb M1 bs N0 C
      have c0 := bt.2 0 _ rfl
      have c1 := bt.2 1 _ rfl
      have c2 := bt.2 2 _ rfl
      have c3 := bt.2 3 _ rfl
      have c4 := bt.2 4 _ rfl
      have d0 := bs1.2 0 _ rfl
      have d1 := bs1.2 1 _ rfl
      have d2 := bs1.2 2 _ rfl
      have d3 := bs1.2 3 _ rfl
      have ba := Bx.new W1 [.int .i64 p] 3
      have N2 := N1.alloc N1.size (.cells #[.int .i64 p] 3)
      go_wp2_with fail
      refine (CI.out _ _ ba).mono ?_
      rintro e w9 ⟨rfl, rfl⟩
      go_wp2
      go_ret2
      exact ⟨HF.out, N2⟩
    have HF := Lib.hid (fun a ha => yesAt (a := a) (show okAt xs s p = true by unfold okAt; rw [hg, decide_eq_true hp]; rfl) ha)
    have CI := Lib.hid (fun b W hb => withinOneQ 0 ((xs.length : Int) - 1) p b true W hb (decide_eq_true hp))
    have htl := timesT_len xs s
    obtain ⟨ao, cap, rfl⟩ := h.form
    have CT := Lib.hid (fun W (q : Below w.heap.size w W) => timesOfT xs ao cap s W B (h.below (q.mono hB)) (Nat.le_trans hB q.size) hx hs)
    generalize isOnT xs s p = r1 at *
    generalize okAt xs s p = r2 at *
    generalize timesT xs s = tms at *
    clear h CY CN hg hx hs
    go_enter Try.func23, Try.ntmps23
    go_wp2_with fail
    refine C.out.mono ?_
    rintro e w1 ⟨he, hb⟩
    obtain rfl := he ao cap rfl
    clear he
    have M1 := N0.trans (hb.mono N0.size)
    have hw01 : w.heap.size < w1.heap.size := Nat.lt_of_lt_of_le (by simp) hb.size
    obtain ⟨W1, hW1⟩ : ∃ W1, w1.alloc (.cells #[.slice ao xs.length cap, .int .i64 s.pShort, .int .i64 s.pLong, .int .i64 s.pOn, .int .i64 s.pOff] 78) = W1 := ⟨_, rfl⟩
    have N1 : Below w.heap.size w W1 := hW1 ▸ M1.alloc M1.size _
    have bt : Bx W1 w1.heap.size (celT ao xs.length cap s) := hW1 ▸ Bx.new w1 (celT ao xs.length cap s) 78
    have bs1 : Bx W1 w.heap.size [.int .i64 s.pShort, .int .i64 s.pLong, .int .i64 s.pOn, .int .i64 s.pOff] := hW1 ▸ (bs.below hb).alloc _
    clear hb M1 bs N0 C
    have c0 := bt.2 0 _ rfl
    have c1 := bt.2 1 _ rfl
    have c2 := bt.2 2 _ rfl
    have c3 := bt.2 3 _ rfl
    have c4 := bt.2 4 _ rfl
    have d0 := bs1.2 0 _ rfl
    have d1 := bs1.2 1 _ rfl
    have d2 := bs1.2 2 _ rfl
    have d3 := bs1.2 3 _ rfl
    have ba := Bx.new W1 [.int .i64 p] 3
    have bt1 := bt.alloc (.cells #[.int .i64 p] 3)
    have N2 := N1.alloc N1.size (.cells #[.int .i64 p] 3)
    have e0 := bt1.2 0 _ rfl
    have e1 := bt1.2 1 _ rfl
    have e2 := bt1.2 2 _ rfl
    have e3 := bt1.2 3 _ rfl
    have e4 := bt1.2 4 _ rfl
    go_wp2_with fail
    refine (CI.out _ _ ba).mono ?_
    rintro e w9 ⟨rfl, rfl⟩
    go_wp2_with fail
    clear hW1
    refine (CT.out _ N2).mono ?_
    rintro e w2 ⟨v', rfl, hO, hb⟩
    have B2 := N2.trans (hb.mono N2.size)
    obtain ⟨ao2, cap2, rfl⟩ := hO.form
    have hS := SideT.of hO (row := none) (fun g e => by cases e)
    clear e0 e1 e2 e3 e4 bt1 bt bs1 hb hO N1 N2 ba
    clear c0 c1 c2 c3 c4 d0 d1 d2 d3
    go_wp2
    go_loopw [32] (fun i wr => ∃ (k : Nat), k ≤ tms.length ∧ i = .int .i64 k ∧ Hid (inP (tms.take k) p = false) ∧ SideT wr none ao2 tms ∧ Below w.heap.size w wr) (fun i _ => tms.length - (intOf i).toNat)
    case atStart => exact ⟨0, Nat.zero_le _, rfl, Lib.hid rfl, hS, B2⟩
    case round =>
      obtain ⟨k, hk, rfl, HP, hS2, hbl⟩ := hrel
      clear hS B2
      by_cases hlt : k < tms.length
      case neg =>
        obtain rfl : k = tms.length := by omega
        have HE := Lib.hid (HF.out false (by have := HP.out; rwa [List.take_length] at this))
        go_wp2
        go_ret2
        exact ⟨HE.out, hbl⟩
      obtain ⟨q, hq⟩ := get_of_lt hlt
      obtain ⟨b, off, rfl, hblt, hne, hce⟩ := hS2 k q hq
      have e0 : wr.cell? ⟨b, off + k * 2, none⟩ = some (.int .i64 q.1) := hce 0 _ rfl
      have e1 : wr.cell? ⟨b, off + k * 2 + 1, none⟩ = some (.int .i64 q.2) := hce 1 _ rfl
      have hk0 : (0 : Int) ≤ (k : Int) := by omega
      have hk1 : (k : Int) < (tms.length : Int) := by omega
      have hbl5 := hbl.alloc hbl.size (.cells #[.int .i64 q.1, .int .i64 q.2] 55)
      have hS5 := hS2.alloc (.cells #[.int .i64 q.1, .int .i64 q.2] 55)
      by_cases hin : q.1 ≤ p ∧ p < q.2
      case pos =>
        have HE := Lib.hid (HF.out true (inP_hit hq hin))
        obtain ⟨hi1, hi2⟩ := hin
        clear hq hce
        go_wp2
        go_ret2
        exact ⟨HE.out, hbl5⟩
      case neg =>
        have HP2 : Hid (inP (tms.take (k + 1)) p = false) := Lib.hid (by rw [inP_take hq, HP.out, decide_eq_false hin]; rfl)
        clear hq hce
        by_cases hi1 : q.1 ≤ p
        · have hi2 : ¬ p < q.2 := fun g => hin ⟨hi1, g⟩
          go_wp2
          go_roundw
          case rel => exact ⟨k + 1, by omega, by go_num, HP2, hS5, hbl5⟩
          case measure => simp [intOf]; omega
        · go_wp2
          go_roundw
          case rel => exact ⟨k + 1, by omega, by go_num, HP2, hS5, hbl5⟩
          case measure => simp [intOf]; omega
set_option maxRecDepth 100000 in
set_option maxHeartbeats 4000000 in
theorem implLon (xs : List Int) (v : Value) (s : GSetting) (v2 : Value) (w : World) (B : Nat) (h : Lst (Value.int .i64) w B v xs) (h2 : SettingVL w B v2 s) (hB : B ≤ w.heap.size) (hn : xs.length ≤ 1048576) (_ : sz1Setting s ≤ 1048576) (hw : wfSetting s) :
    Calls Try.prog 27 #[v, v2] w fun e w' => e = .returned (.tuple #[.int .i64 (atLo xs s), .int .i64 (lenLo xs s), .bool (okLo xs s)]) ∧ Below w.heap.size w w' := by
  obtain rfl := h2.form
  clear h2
  have N0 := (Below.refl w.heap.size w).alloc (Nat.le_refl _) (.cells #[.int .i64 s.pShort, .int .i64 s.pLong, .int .i64 s.pOn, .int .i64 s.pOff] 28)
  have bs := Bx.new w [.int .i64 s.pShort, .int .i64 s.pLong, .int .i64 s.pOn, .int .i64 s.pOff] 28
  have CY := Lib.hid (triggerForT xs v s _ B (h.below (N0.mono hB)) (Nat.le_trans hB N0.size) hw)
  have CN := Lib.hid (triggerNoT xs v s _ B (h.below (N0.mono hB)) (Nat.le_trans hB N0.size) hw)
  cases hg : goodTg xs s with
  | false =>
    have C := Lib.hid (CN.out hg)
    have HF := Lib.hid (noLo (xs := xs) (s := s) hg)
    obtain ⟨ao, cap, rfl⟩ := h.form
    clear h CY CN hg
    go_enter Try.func27, Try.ntmps27
    go_wp2_with fail
    refine C.out.mono ?_
    rintro e w1 ⟨rfl, hb⟩
    have M1 := N0.trans (hb.mono N0.size)
    have M2 := M1.alloc M1.size (.cells #[.slice none 0 0, .int .i64 0, .int .i64 0, .int .i64 0, .int .i64 0] 78)
    go_wp2
    go_ret3
    exact ⟨HF.out, M2⟩
  | true =>
    have C := Lib.hid (CY.out hg)
    obtain ⟨hx, hs⟩ := goodTg_yes hg
    have hl24 := (okL_yes hx).2
    have HF := Lib.hid (fun a b hb => yesLo (a := a) (b := b) hg hb)
    have HM := Lib.hid (fun q hq => timesT_mem xs s (q := q) hq)
    have HD := Lib.hid (fun k => bst_bd xs s k)
    have htl := timesT_len xs s
    obtain ⟨ao, cap, rfl⟩ := h.form
    have CT := Lib.hid (fun W (q : Below w.heap.size w W) => timesOfT xs ao cap s W B (h.below (q.mono hB)) (Nat.le_trans hB q.size) hx hs)
    generalize atLo xs s = r1 at *
    generalize lenLo xs s = r2 at *
    generalize okLo xs s = r3 at *
    generalize timesT xs s = tms at *
    clear h CY CN hg hx hs
    go_enter Try.func27, Try.ntmps27
    go_wp2_with fail
    refine C.out.mono ?_
    rintro e w1 ⟨he, hb⟩
    obtain rfl := he ao cap rfl
    clear he
    have M1 := N0.trans (hb.mono N0.size)
    have hw01 : w.heap.size < w1.heap.size := Nat.lt_of_lt_of_le (by simp) hb.size
    obtain ⟨W1, hW1⟩ : ∃ W1, w1.alloc (.cells #[.slice ao xs.length cap, .int .i64 s.pShort, .int .i64 s.pLong, .int .i64 s.pOn, .int .i64 s.pOff] 78) = W1 := ⟨_, rfl⟩
    have N1 : Below w.heap.size w W1 := hW1 ▸ M1.alloc M1.size _
    have bt : Bx W1 w1.heap.size (celT ao xs.length cap s) := hW1 ▸ Bx.new w1 (celT ao xs.length cap s) 78
    have bs1 : Bx W1 w.heap.size [.int .i64 s.pShort, .int .i64 s.pLong, .int .i64 s.pOn, .int .i64 s.pOff] := hW1 ▸ (bs.below hb).alloc _
    clear hb M1 bs N0 C
    have c0 := bt.2 0 _ rfl
    have c1 := bt.2 1 _ rfl
    have c2 := bt.2 2 _ rfl
    have c3 := bt.2 3 _ rfl
    have c4 := bt.2 4 _ rfl
    have d0 := bs1.2 0 _ rfl
    have d1 := bs1.2 1 _ rfl
    have d2 := bs1.2 2 _ rfl
    have d3 := bs1.2 3 _ rfl
    go_wp2_with fail
    clear hW1
    refine (CT.out _ N1).mono ?_
    rintro e w2 ⟨v', rfl, hO, hb⟩
    have B2 := N1.trans (hb.mono N1.size)
    obtain ⟨ao2, cap2, rfl⟩ := hO.form
    have hS := SideT.of hO (row := none) (fun g e => by cases e)
    clear bt bs1 hb hO N1
    clear c0 c1 c2 c3 c4 d0 d1 d2 d3
    go_wp2
    go_loopw [9, 10, 25] (fun a m i wr => ∃ (k : Nat) (x y : Int), k ≤ tms.length ∧ i = .int .i64 k ∧ a = .int .i64 x ∧ m = .int .i64 y ∧ Hid (bstP (tms.take k) = (x, y)) ∧ SideT wr none ao2 tms ∧ Below w.heap.size w wr) (fun _ _ i _ => tms.length - (intOf i).toNat)
    case atStart => exact ⟨0, 0, 0, Nat.zero_le _, rfl, rfl, rfl, Lib.hid rfl, hS, B2⟩
    case round =>
      obtain ⟨k, x, y, hk, rfl, rfl, rfl, HP, hS2, hbl⟩ := hrel
      clear hS B2
      by_cases hlt : k < tms.length
      case neg =>
        obtain rfl : k = tms.length := by omega
        have HE := Lib.hid (HF.out x y (by have := HP.out; rwa [List.take_length] at this))
        go_wp2
        go_ret3
        exact ⟨HE.out, hbl⟩
      obtain ⟨q, hq⟩ := get_of_lt hlt
      obtain ⟨b, off, rfl, hblt, hne, hce⟩ := hS2 k q hq
      have hm := HM.out q (List.mem_of_getElem? hq)
      have hxy := HD.out k
      rw [HP.out] at hxy
      have hy0 : 0 ≤ y := hxy.2.2.1
      have hy1 : y ≤ (xs.length : Int) := hxy.2.2.2
      have e0 : wr.cell? ⟨b, off + k * 2, none⟩ = some (.int .i64 q.1) := hce 0 _ rfl
      have e1 : wr.cell? ⟨b, off + k * 2 + 1, none⟩ = some (.int .i64 q.2) := hce 1 _ rfl
      have hk0 : (0 : Int) ≤ (k : Int) := by omega
      have hk1 : (k : Int) < (tms.length : Int) := by omega
      have s1 : IntKind.i64.wrap (q.2 - q.1) = q.2 - q.1 := IntWalk.i64_in _ (by omega)
      have HP1 := Lib.hid (bstP_take hq)
      have hbl5 := hbl.alloc hbl.size (.cells #[.int .i64 q.1, .int .i64 q.2] 55)
      have hS5 := hS2.alloc (.cells #[.int .i64 q.1, .int .i64 q.2] 55)
      clear hq hce hxy
      by_cases hin : y < q.2 - q.1
      case pos =>
        have HP2 : Hid (bstP (tms.take (k + 1)) = (q.1, q.2 - q.1)) := Lib.hid (by rw [HP1.out, HP.out]; exact if_pos hin)
        go_wp2
        go_roundw
        case rel => exact ⟨k + 1, q.1, q.2 - q.1, by omega, by go_num, rfl, rfl, HP2, hS5, hbl5⟩
        case measure => simp [intOf]; omega
      case neg =>
        have HP2 : Hid (bstP (tms.take (k + 1)) = (x, y)) := Lib.hid (by rw [HP1.out, HP.out]; exact if_neg hin)
        go_wp2
        go_roundw
        case rel => exact ⟨k + 1, x, y, by omega, by go_num, rfl, rfl, HP2, hS5, hbl5⟩
        case measure => simp [intOf]; omega
end Go.Proofs.Ytklilfbokpljkab
