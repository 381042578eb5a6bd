/- Triggers: on at a place, the longest time: the specification. -/
import Derived.Test.YtklilfbokpljkabTgF
import Derived.BigQuiet
namespace Go.Proofs.Ytklilfbokpljkab
open Go.ChangeShapes Go.WideShapes Go.ChangeAt Go.RowKit Go.ChangeMaps
set_option linter.unusedSimpArgs false
set_option linter.unusedVariables false
set_option linter.unusedSimpArgs false
set_option linter.unusedVariables false

set_option maxRecDepth 100000 in
set_option maxHeartbeats 4000000 in
theorem specIoa (xs : List Int) (v : Value) (s : GSetting) (v2 : Value) (p : Int) (w : World) (B : Nat) (h : Lst (Value.int .i64) w B v xs) (h2 : SettingVL w B v2 s) (hB : B ≤ w.heap.size) (hn : xs.length ≤ 1048576) (_ : sz1Setting s ≤ 1048576) (hw : wfSetting s) (_ : I64 p) :
    Calls Try.prog 22 #[v, v2, .int .i64 p] w fun e w' => e = .returned (.tuple #[.bool (isOnT xs s p), .bool (okAt xs s p)]) ∧ Below w.heap.size w w' := by
  obtain rfl := h2.form
  clear h2
  have N1 := (Below.refl w.heap.size w).alloc (Nat.le_refl _) (.cells #[.int .i64 s.pShort, .int .i64 s.pLong, .int .i64 s.pOn, .int .i64 s.pOff] 28)
  have bx := Bx.new w [.int .i64 s.pShort, .int .i64 s.pLong, .int .i64 s.pOn, .int .i64 s.pOff] 28
  have C := Lib.hid (fun u hu => specAskT xs v s u _ B (h.below (N1.mono hB)) (Nat.le_trans hB N1.size) hw hu)
  cases hg : goodTg xs s with
  | false =>
    have HF := Lib.hid (noAt (xs := xs) (s := s) (p := p) (by unfold okAt; rw [hg]; rfl))
    have CA := Lib.hid (C.out false hg)
    obtain ⟨ao, cap, rfl⟩ := h.form
    clear h C hg
    go_enter Try.func22, Try.ntmps22
    go_wp2_with fail
    refine CA.out.mono ?_
    rintro e w1 ⟨rfl, hb⟩
    go_wp2
    go_ret2
    exact ⟨HF.out, N1.trans (hb.mono N1.size)⟩
  | true =>
    have CA := Lib.hid (C.out true hg)
    obtain ⟨hx, hs⟩ := goodTg_yes hg
    have hl24 := (okL_yes hx).2
    by_cases hp : 0 ≤ p ∧ p ≤ (xs.length : Int) - 1
    case neg =>
      have HF := Lib.hid (noAt (xs := xs) (s := s) (p := p) (by unfold okAt; rw [decide_eq_false hp, Bool.and_false]))
      have CI := Lib.hid (fun W => inNo p 0 ((xs.length : Int) - 1) W hp)
      obtain ⟨ao, cap, rfl⟩ := h.form
      clear h C hg hp hx hs
      go_enter Try.func22, Try.ntmps22
      go_wp2_with fail
      refine CA.out.mono ?_
      rintro e w1 ⟨rfl, hb⟩
      go_wp2_with fail
      refine (CI.out _).mono ?_
      rintro e w9 ⟨rfl, rfl⟩
      go_wp2
      go_ret2
      exact ⟨HF.out, N1.trans (hb.mono N1.size)⟩
    have HF := Lib.hid (fun a ha => yesAt (a := a) (show okAt xs s p = true by unfold okAt; rw [hg, decide_eq_true hp]; rfl) ha)
    have CI := Lib.hid (fun W => inYes p 0 ((xs.length : Int) - 1) W hp)
    have CO := Lib.hid (fun W (q : Below w.heap.size w W) => specOnT xs v s W B (h.below (q.mono hB)) (Nat.le_trans hB q.size) hx hs)
    have HM := Lib.hid (fun q hq => timesT_mem xs s (q := q) hq)
    have htl := timesT_len xs s
    generalize isOnT xs s p = r1 at *
    generalize okAt xs s p = r2 at *
    generalize timesT xs s = tms at *
    obtain ⟨ao, cap, rfl⟩ := h.form
    clear h C hg hx hs
    go_enter Try.func22, Try.ntmps22
    go_wp2_with fail
    refine CA.out.mono ?_
    rintro e w1 ⟨rfl, hb⟩
    have bx1 := bx.below hb
    have B1 := N1.trans (hb.mono N1.size)
    clear hb bx N1
    have c0 := bx1.2 0 _ rfl
    have c1 := bx1.2 1 _ rfl
    have c2 := bx1.2 2 _ rfl
    have c3 := bx1.2 3 _ rfl
    go_wp2_with fail
    refine (CI.out _).mono ?_
    rintro e w9 ⟨rfl, rfl⟩
    go_wp2_with fail
    refine (CO.out _ B1).mono ?_
    rintro e w2 ⟨v', rfl, hO, hb⟩
    have B2 := B1.trans (hb.mono B1.size)
    obtain ⟨ao2, cap2, rfl⟩ := hO.form
    have hS := SideT.of hO (row := none) (fun g e => by cases e)
    clear c0 c1 c2 c3 bx1 hb hO B1
    go_wp2
    go_loopw [9] (fun i wr => ∃ (k : Nat), k ≤ tms.length ∧ i = .int .i64 k ∧ Hid (inP (tms.take k) p = false) ∧ SideT wr none ao2 tms ∧ Below w.heap.size w wr) (fun i _ => tms.length - (intOf i).toNat)
    case atStart => exact ⟨0, Nat.zero_le _, rfl, Lib.hid rfl, hS, B2⟩
    case round =>
      obtain ⟨k, hk, rfl, HP, hS2, hbl⟩ := hrel
      clear hS B2
      by_cases hlt : k < tms.length
      case neg =>
        obtain rfl : k = tms.length := by omega
        have HE := Lib.hid (HF.out false (by have := HP.out; rwa [List.take_length] at this))
        go_wp2
        go_ret2
        exact ⟨HE.out, hbl⟩
      obtain ⟨q, hq⟩ := get_of_lt hlt
      obtain ⟨b, off, rfl, hblt, hne, hce⟩ := hS2 k q hq
      have hm := HM.out q (List.mem_of_getElem? hq)
      have e0 : wr.cell? ⟨b, off + k * 2, none⟩ = some (.int .i64 q.1) := hce 0 _ rfl
      have e1 : wr.cell? ⟨b, off + k * 2 + 1, none⟩ = some (.int .i64 q.2) := hce 1 _ rfl
      have hk0 : (0 : Int) ≤ (k : Int) := by omega
      have hk1 : (k : Int) < (tms.length : Int) := by omega
      have s1 : IntKind.i64.wrap (q.2 - 1) = q.2 - 1 := IntWalk.i64_in _ (by omega)
      by_cases hin : q.1 ≤ p ∧ p < q.2
      case pos =>
        have HE := Lib.hid (HF.out true (inP_hit hq hin))
        have CY := Lib.hid (fun W => inYes p q.1 (q.2 - 1) W (by omega))
        clear hq hce
        go_wp2
        go_quiet ((go_at_call 79; exact Calls.quiet_of_same (CY.out _)))
        go_wp2
        go_ret2
        exact ⟨HE.out, drewN_b hbl _⟩
      case neg =>
        have HP2 : Hid (inP (tms.take (k + 1)) p = false) := Lib.hid (by rw [inP_take hq, HP.out, decide_eq_false hin]; rfl)
        have CY := Lib.hid (fun W => inNo p q.1 (q.2 - 1) W (by omega))
        clear hq hce
        go_wp2
        go_quiet ((go_at_call 79; exact Calls.quiet_of_same (CY.out _)))
        go_wp2
        go_roundw
        case rel => exact ⟨k + 1, by omega, by go_num, HP2, hS2, drewN_b hbl _⟩
        case measure => simp [intOf]; omega
set_option maxRecDepth 100000 in
set_option maxHeartbeats 4000000 in
theorem specLon (xs : List Int) (v : Value) (s : GSetting) (v2 : Value) (w : World) (B : Nat) (h : Lst (Value.int .i64) w B v xs) (h2 : SettingVL w B v2 s) (hB : B ≤ w.heap.size) (hn : xs.length ≤ 1048576) (_ : sz1Setting s ≤ 1048576) (hw : wfSetting s) :
    Calls Try.prog 26 #[v, v2] w fun e w' => e = .returned (.tuple #[.int .i64 (atLo xs s), .int .i64 (lenLo xs s), .bool (okLo xs s)]) ∧ Below w.heap.size w w' := by
  obtain rfl := h2.form
  clear h2
  have N1 := (Below.refl w.heap.size w).alloc (Nat.le_refl _) (.cells #[.int .i64 s.pShort, .int .i64 s.pLong, .int .i64 s.pOn, .int .i64 s.pOff] 28)
  have bx := Bx.new w [.int .i64 s.pShort, .int .i64 s.pLong, .int .i64 s.pOn, .int .i64 s.pOff] 28
  have C := Lib.hid (fun u hu => specAskT xs v s u _ B (h.below (N1.mono hB)) (Nat.le_trans hB N1.size) hw hu)
  cases hg : goodTg xs s with
  | false =>
    have HF := Lib.hid (noLo (xs := xs) (s := s) hg)
    have CA := Lib.hid (C.out false hg)
    obtain ⟨ao, cap, rfl⟩ := h.form
    clear h C hg
    go_enter Try.func26, Try.ntmps26
    go_wp2_with fail
    refine CA.out.mono ?_
    rintro e w1 ⟨rfl, hb⟩
    go_wp2
    go_ret3
    exact ⟨HF.out, N1.trans (hb.mono N1.size)⟩
  | true =>
    have CA := Lib.hid (C.out true hg)
    obtain ⟨hx, hs⟩ := goodTg_yes hg
    have hl24 := (okL_yes hx).2
    have HF := Lib.hid (fun a b hb => yesLo (a := a) (b := b) hg hb)
    have CO := Lib.hid (fun W (q : Below w.heap.size w W) => specOnT xs v s W B (h.below (q.mono hB)) (Nat.le_trans hB q.size) hx hs)
    have HM := Lib.hid (fun q hq => timesT_mem xs s (q := q) hq)
    have HD := Lib.hid (fun k => bst_bd xs s k)
    have htl := timesT_len xs s
    generalize atLo xs s = r1 at *
    generalize lenLo xs s = r2 at *
    generalize okLo xs s = r3 at *
    generalize timesT xs s = tms at *
    obtain ⟨ao, cap, rfl⟩ := h.form
    clear h C hg hx hs
    go_enter Try.func26, Try.ntmps26
    go_wp2_with fail
    refine CA.out.mono ?_
    rintro e w1 ⟨rfl, hb⟩
    have bx1 := bx.below hb
    have B1 := N1.trans (hb.mono N1.size)
    clear hb bx N1
    have c0 := bx1.2 0 _ rfl
    have c1 := bx1.2 1 _ rfl
    have c2 := bx1.2 2 _ rfl
    have c3 := bx1.2 3 _ rfl
    go_wp2_with fail
    refine (CO.out _ B1).mono ?_
    rintro e w2 ⟨v', rfl, hO, hb⟩
    have B2 := B1.trans (hb.mono B1.size)
    obtain ⟨ao2, cap2, rfl⟩ := hO.form
    have hS := SideT.of hO (row := none) (fun g e => by cases e)
    clear c0 c1 c2 c3 bx1 hb hO B1
    go_wp2
    go_loopw [8, 9, 10] (fun a m i wr => ∃ (k : Nat) (x y : Int), k ≤ tms.length ∧ i = .int .i64 k ∧ a = .int .i64 x ∧ m = .int .i64 y ∧ Hid (bstP (tms.take k) = (x, y)) ∧ SideT wr none ao2 tms ∧ Below w.heap.size w wr) (fun _ _ i _ => tms.length - (intOf i).toNat)
    case atStart => exact ⟨0, 0, 0, Nat.zero_le _, rfl, rfl, rfl, Lib.hid rfl, hS, B2⟩
    case round =>
      obtain ⟨k, x, y, hk, rfl, rfl, rfl, HP, hS2, hbl⟩ := hrel
      clear hS B2
      by_cases hlt : k < tms.length
      case neg =>
        obtain rfl : k = tms.length := by omega
        have HE := Lib.hid (HF.out x y (by have := HP.out; rwa [List.take_length] at this))
        go_wp2
        go_ret3
        exact ⟨HE.out, hbl⟩
      obtain ⟨q, hq⟩ := get_of_lt hlt
      obtain ⟨b, off, rfl, hblt, hne, hce⟩ := hS2 k q hq
      have hm := HM.out q (List.mem_of_getElem? hq)
      have hxy := HD.out k
      rw [HP.out] at hxy
      have hy0 : 0 ≤ y := hxy.2.2.1
      have hy1 : y ≤ (xs.length : Int) := hxy.2.2.2
      have e0 : wr.cell? ⟨b, off + k * 2, none⟩ = some (.int .i64 q.1) := hce 0 _ rfl
      have e1 : wr.cell? ⟨b, off + k * 2 + 1, none⟩ = some (.int .i64 q.2) := hce 1 _ rfl
      have hk0 : (0 : Int) ≤ (k : Int) := by omega
      have hk1 : (k : Int) < (tms.length : Int) := by omega
      have s1 : IntKind.i64.wrap (q.2 - q.1) = q.2 - q.1 := IntWalk.i64_in _ (by omega)
      have HP1 := Lib.hid (bstP_take hq)
      clear hq hce hxy
      by_cases hin : y < q.2 - q.1
      case pos =>
        have HP2 : Hid (bstP (tms.take (k + 1)) = (q.1, q.2 - q.1)) := Lib.hid (by rw [HP1.out, HP.out]; exact if_pos hin)
        go_wp2
        go_quiet (fail)
        go_wp2
        go_roundw
        case rel => exact ⟨k + 1, q.1, q.2 - q.1, by omega, by go_num, rfl, rfl, HP2, hS2, drewN_b hbl _⟩
        case measure => simp [intOf]; omega
      case neg =>
        have HP2 : Hid (bstP (tms.take (k + 1)) = (x, y)) := Lib.hid (by rw [HP1.out, HP.out]; exact if_neg hin)
        go_wp2
        go_quiet (fail)
        go_wp2
        go_roundw
        case rel => exact ⟨k + 1, x, y, by omega, by go_num, rfl, rfl, HP2, hS2, drewN_b hbl _⟩
        case measure => simp [intOf]; omega
end Go.Proofs.Ytklilfbokpljkab
