/- Triggers: the program's ratio at a place, greatest ratio, first motion. -/
import Derived.Test.YtklilfbokpljkabTjE
import Derived.Test.YtklilfbokpljkabGrew
import Derived.Test.YtklilfbokpljkabTgH
namespace Go.Proofs.Ytklilfbokpljkab
open Go.ChangeShapes Go.WideShapes Go.ChangeAt Go.RowKit Go.ChangeMaps Go.Sort Go.Shelf
set_option linter.unusedSimpArgs false
set_option linter.unusedVariables false
set_option linter.unusedSimpArgs false
set_option linter.unusedVariables false

set_option maxRecDepth 100000 in
set_option maxHeartbeats 4000000 in
theorem implRa (xs : List Int) (v : Value) (s : GSetting) (v2 : Value) (p : Int) (w : World) (B : Nat) (h : Lst (Value.int .i64) w B v xs) (h2 : SettingVL w B v2 s) (hB : B ≤ w.heap.size) (hn : xs.length ≤ 1048576) (_ : sz1Setting s ≤ 1048576) (hw : wfSetting s) (hip : I64 p) :
    Calls Try.prog 33 #[v, v2, .int .i64 p] w fun e w' => e = .returned (.tuple #[.int .i64 (numRa xs s p), .int .i64 (denRa xs s p), .bool (okRa xs s p)]) ∧ Below w.heap.size w w' := by
  obtain rfl := h2.form
  clear h2
  have N0 := (Below.refl w.heap.size w).alloc (Nat.le_refl _) (.cells #[.int .i64 s.pShort, .int .i64 s.pLong, .int .i64 s.pOn, .int .i64 s.pOff] 28)
  have bs := Bx.new w [.int .i64 s.pShort, .int .i64 s.pLong, .int .i64 s.pOn, .int .i64 s.pOff] 28
  have CY := Lib.hid (triggerForT xs v s _ B (h.below (N0.mono hB)) (Nat.le_trans hB N0.size) hw)
  have CN := Lib.hid (triggerNoT xs v s _ B (h.below (N0.mono hB)) (Nat.le_trans hB N0.size) hw)
  cases hg : goodTg xs s with
  | false =>
    have C := Lib.hid (CN.out hg)
    have HF := Lib.hid (noRa (xs := xs) (s := s) (p := p) (by unfold okRa; rw [hg]; rfl))
    obtain ⟨ao, cap, rfl⟩ := h.form
    clear h CY CN hg
    go_enter Try.func33, Try.ntmps33
    go_wp2_with fail
    refine C.out.mono ?_
    rintro e w1 ⟨rfl, hb⟩
    have M1 := N0.trans (hb.mono N0.size)
    have M2 := M1.alloc M1.size (.cells #[.slice none 0 0, .int .i64 0, .int .i64 0, .int .i64 0, .int .i64 0] 78)
    go_wp2
    go_ret3
    exact ⟨HF.out, M2⟩
  | true =>
    have C := Lib.hid (CY.out hg)
    obtain ⟨hx, hs⟩ := goodTg_yes hg
    have hl24 := (okL_yes hx).2
    by_cases hp : s.pLong - 1 ≤ p ∧ p ≤ (xs.length : Int) - 1
    case neg =>
      have HF := Lib.hid (noRa (xs := xs) (s := s) (p := p) (by unfold okRa; rw [decide_eq_false hp, Bool.and_false]))
      obtain ⟨ao, cap, rfl⟩ := h.form
      have CI := Lib.hid (fun W => hasRatioT xs ao cap s p false W hl24 hs (decide_eq_false hp))
      clear h CY CN hg hx hs hp
      go_enter Try.func33, Try.ntmps33
      go_wp2_with fail
      refine C.out.mono ?_
      rintro e w1 ⟨he, hb⟩
      obtain rfl := he ao cap rfl
      clear he
      have M1 := N0.trans (hb.mono N0.size)
      have hw01 : w.heap.size < w1.heap.size := Nat.lt_of_lt_of_le (by simp) hb.size
      obtain ⟨W1, hW1⟩ : ∃ W1, w1.alloc (.cells #[.slice ao xs.length cap, .int .i64 s.pShort, .int .i64 s.pLong, .int .i64 s.pOn, .int .i64 s.pOff] 78) = W1 := ⟨_, rfl⟩
      have N1 : Below w.heap.size w W1 := hW1 ▸ M1.alloc M1.size _
      have bt : Bx W1 w1.heap.size (celT ao xs.length cap s) := hW1 ▸ Bx.new w1 (celT ao xs.length cap s) 78
      have bs1 : Bx W1 w.heap.size [.int .i64 s.pShort, .int .i64 s.pLong, .int .i64 s.pOn, .int .i64 s.pOff] := hW1 ▸ (bs.below hb).alloc _
      clear hb M1 bs N0 C
      have c0 := bt.2 0 _ rfl
      have c1 := bt.2 1 _ rfl
      have c2 := bt.2 2 _ rfl
      have c3 := bt.2 3 _ rfl
      have c4 := bt.2 4 _ rfl
      have d0 := bs1.2 0 _ rfl
      have d1 := bs1.2 1 _ rfl
      have d2 := bs1.2 2 _ rfl
      have d3 := bs1.2 3 _ rfl
      go_wp2_with fail
      clear hW1
      refine (CI.out _).mono ?_
      rintro e w2 ⟨rfl, hb⟩
      go_wp2
      go_ret3
      exact ⟨HF.out, N1.trans (hb.mono N1.size)⟩
    have HOK : Hid (okRa xs s p = true) := Lib.hid (by unfold okRa; rw [hg, decide_eq_true hp]; rfl)
    obtain ⟨k, rfl⟩ : ∃ k : Nat, p = (k : Int) := ⟨p.toNat, by have := hs.1; have := hs.2.1; omega⟩
    have hlt : k < xs.length := by omega
    have HF := Lib.hid (fun a b ha hb => yesRa (a := a) (b := b) HOK.out ha hb)
    rw [Int.toNat_natCast] at HF
    obtain ⟨ao, cap, rfl⟩ := h.form
    have CI := Lib.hid (fun W => hasRatioT xs ao cap s (k : Int) true W hl24 hs (decide_eq_true hp))
    have CR := Lib.hid (fun W (q : Below w.heap.size w W) => ratioT xs ao cap s k _ _ W B (h.below (q.mono hB)) (Nat.le_trans hB q.size) hx hs (by omega) hlt rfl rfl)
    have HF2 := Lib.hid (HF.out _ _ rfl rfl)
    generalize numR (nT xs s k) (dT xs s k) = nn at *
    generalize denR (nT xs s k) (dT xs s k) = dd at *
    clear h CY CN hg hx hs hp HF HOK
    go_enter Try.func33, Try.ntmps33
    go_wp2_with fail
    refine C.out.mono ?_
    rintro e w1 ⟨he, hb⟩
    obtain rfl := he ao cap rfl
    clear he
    have M1 := N0.trans (hb.mono N0.size)
    have hw01 : w.heap.size < w1.heap.size := Nat.lt_of_lt_of_le (by simp) hb.size
    obtain ⟨W1, hW1⟩ : ∃ W1, w1.alloc (.cells #[.slice ao xs.length cap, .int .i64 s.pShort, .int .i64 s.pLong, .int .i64 s.pOn, .int .i64 s.pOff] 78) = W1 := ⟨_, rfl⟩
    have N1 : Below w.heap.size w W1 := hW1 ▸ M1.alloc M1.size _
    have bt : Bx W1 w1.heap.size (celT ao xs.length cap s) := hW1 ▸ Bx.new w1 (celT ao xs.length cap s) 78
    have bs1 : Bx W1 w.heap.size [.int .i64 s.pShort, .int .i64 s.pLong, .int .i64 s.pOn, .int .i64 s.pOff] := hW1 ▸ (bs.below hb).alloc _
    clear hb M1 bs N0 C
    have c0 := bt.2 0 _ rfl
    have c1 := bt.2 1 _ rfl
    have c2 := bt.2 2 _ rfl
    have c3 := bt.2 3 _ rfl
    have c4 := bt.2 4 _ rfl
    have d0 := bs1.2 0 _ rfl
    have d1 := bs1.2 1 _ rfl
    have d2 := bs1.2 2 _ rfl
    have d3 := bs1.2 3 _ rfl
    go_wp2_with fail
    clear hW1
    refine (CI.out _).mono ?_
    rintro e w2 ⟨rfl, hb⟩
    have N2 := N1.trans (hb.mono N1.size)
    have bt2 := bt.below hb
    clear hb bt bs1 N1
    clear c0 c1 c2 c3 c4 d0 d1 d2 d3
    have c0 := bt2.2 0 _ rfl
    have c1 := bt2.2 1 _ rfl
    have c2 := bt2.2 2 _ rfl
    have c3 := bt2.2 3 _ rfl
    have c4 := bt2.2 4 _ rfl
    go_wp2_with fail
    refine (CR.out _ N2).mono ?_
    rintro e w3 ⟨rfl, hb⟩
    have N3 := N2.trans (hb.mono N2.size)
    clear hb bt2 N2 c0 c1 c2 c3 c4
    obtain ⟨W3, hW3⟩ : ∃ W3, w3.alloc (.cells #[.int .i64 nn, .int .i64 dd] 87) = W3 := ⟨_, rfl⟩
    have N4 : Below w.heap.size w W3 := hW3 ▸ N3.alloc N3.size _
    have br : Bx W3 w3.heap.size [.int .i64 nn, .int .i64 dd] := hW3 ▸ Bx.new w3 [.int .i64 nn, .int .i64 dd] 87
    have r0 := br.2 0 _ rfl
    have r1 := br.2 1 _ rfl
    go_wp2
    go_quiet (fail)
    go_wp2
    go_ret3
    exact ⟨HF2.out, drewN_b N4 _⟩
theorem cmpT (x y : Int) (w : World) : Calls Try.prog 73 #[.int .i64 x, .int .i64 y] w fun e w' => e = .returned (.int .i64 (sgnT x y)) ∧ w' = w :=
  (cmpCompare x y w).mono fun e w' ⟨h1, h2⟩ => ⟨h1, h2.symm⟩
set_option maxRecDepth 100000 in
set_option maxHeartbeats 4000000 in
theorem implFm (xs : List Int) (v : Value) (s : GSetting) (v2 : Value) (w : World) (B : Nat) (h : Lst (Value.int .i64) w B v xs) (h2 : SettingVL w B v2 s) (hB : B ≤ w.heap.size) (hn : xs.length ≤ 1048576) (_ : sz1Setting s ≤ 1048576) (hw : wfSetting s) :
    Calls Try.prog 18 #[v, v2] w fun e w' => e = .returned (.tuple #[.int .i64 (numFm xs s), .bool (okFm xs s)]) ∧ Below w.heap.size w w' := by
  obtain rfl := h2.form
  clear h2
  have N0 := (Below.refl w.heap.size w).alloc (Nat.le_refl _) (.cells #[.int .i64 s.pShort, .int .i64 s.pLong, .int .i64 s.pOn, .int .i64 s.pOff] 28)
  have bs := Bx.new w [.int .i64 s.pShort, .int .i64 s.pLong, .int .i64 s.pOn, .int .i64 s.pOff] 28
  have CY := Lib.hid (triggerForT xs v s _ B (h.below (N0.mono hB)) (Nat.le_trans hB N0.size) hw)
  have CN := Lib.hid (triggerNoT xs v s _ B (h.below (N0.mono hB)) (Nat.le_trans hB N0.size) hw)
  cases hg : goodTg xs s with
  | false =>
    have C := Lib.hid (CN.out hg)
    have HF := Lib.hid (noFm (xs := xs) (s := s) (by unfold okFm; rw [hg]; rfl))
    obtain ⟨ao, cap, rfl⟩ := h.form
    clear h CY CN hg
    go_enter Try.func18, Try.ntmps18
    go_wp2_with fail
    refine C.out.mono ?_
    rintro e w1 ⟨rfl, hb⟩
    have M1 := N0.trans (hb.mono N0.size)
    have M2 := M1.alloc M1.size (.cells #[.slice none 0 0, .int .i64 0, .int .i64 0, .int .i64 0, .int .i64 0] 78)
    go_wp2
    go_ret2
    exact ⟨HF.out, M2⟩
  | true =>
    have C := Lib.hid (CY.out hg)
    obtain ⟨hx, hs⟩ := goodTg_yes hg
    have hl24 := (okL_yes hx).2
    have hpl : 1 ≤ plT s := by unfold plT; have := hs.1; have := hs.2.1; omega
    obtain ⟨k, hk⟩ : ∃ k, onT xs s s.pOn = k := ⟨_, rfl⟩
    have hkn : k ≤ xs.length := by rw [← hk]; exact nxT_le _ _ _
    have hkp : k < xs.length → 1 ≤ k := fun hon => by
      unfold onT at hk
      by_cases e : xs.length ≤ plT s
      · rw [nxT_end e] at hk; omega
      · have := nxT_ge (loudT xs s s.pOn) xs.length (plT s) (by omega); omega
    have HLX := Lib.hid h
    obtain ⟨ao, cap, rfl, -, -, -, hc⟩ := h
    have CO := Lib.hid (fun W (q : Below w.heap.size w W) => firstOnT xs ao cap s k W B (HLX.out.below (q.mono hB)) (Nat.le_trans hB q.size) hx hs hk)
    by_cases hon : k < xs.length
    case neg =>
      have HF := Lib.hid (noFm (xs := xs) (s := s) (by unfold okFm; rw [hk, decide_eq_false hon, Bool.and_false]))
      have he : ((k : Int) == (xs.length : Int)) = true := by simp; omega
      clear CY CN hg hx hs hc hk hkp HLX
      go_enter Try.func18, Try.ntmps18
      go_wp2_with fail
      refine C.out.mono ?_
      rintro e w1 ⟨he, hb⟩
      obtain rfl := he ao cap rfl
      clear he
      have M1 := N0.trans (hb.mono N0.size)
      have hw01 : w.heap.size < w1.heap.size := Nat.lt_of_lt_of_le (by simp) hb.size
      obtain ⟨W1, hW1⟩ : ∃ W1, w1.alloc (.cells #[.slice ao xs.length cap, .int .i64 s.pShort, .int .i64 s.pLong, .int .i64 s.pOn, .int .i64 s.pOff] 78) = W1 := ⟨_, rfl⟩
      have N1 : Below w.heap.size w W1 := hW1 ▸ M1.alloc M1.size _
      have bt : Bx W1 w1.heap.size (celT ao xs.length cap s) := hW1 ▸ Bx.new w1 (celT ao xs.length cap s) 78
      have bs1 : Bx W1 w.heap.size [.int .i64 s.pShort, .int .i64 s.pLong, .int .i64 s.pOn, .int .i64 s.pOff] := hW1 ▸ (bs.below hb).alloc _
      clear hb M1 bs N0 C
      have c0 := bt.2 0 _ rfl
      have c1 := bt.2 1 _ rfl
      have c2 := bt.2 2 _ rfl
      have c3 := bt.2 3 _ rfl
      have c4 := bt.2 4 _ rfl
      have d0 := bs1.2 0 _ rfl
      have d1 := bs1.2 1 _ rfl
      have d2 := bs1.2 2 _ rfl
      have d3 := bs1.2 3 _ rfl
      go_wp2_with fail
      clear hW1
      refine (CO.out _ N1).mono ?_
      rintro e w2 ⟨rfl, hb⟩
      go_wp2
      go_ret2
      exact ⟨HF.out, N1.trans (hb.mono N1.size)⟩
    have hk1' := hkp hon
    have hxb := (okL_yes hx).1
    obtain ⟨x, hxk⟩ := get_of_lt hon
    obtain ⟨y, hyk⟩ := get_of_lt (l := xs) (k := k - 1) (by omega)
    have HF := Lib.hid (yesFm (xs := xs) (s := s) hg hk hon hxk hyk rfl)
    obtain ⟨b, off, rfl, hbb, hcx⟩ := hc k x hxk
    obtain ⟨b', off', e9, -, hcy⟩ := hc (k - 1) y hyk
    simp only [Option.some.injEq, Addr.mk.injEq, and_true] at e9
    obtain ⟨rfl, rfl⟩ := e9
    have he : ((k : Int) == (xs.length : Int)) = false := by simp; omega
    have hk0 : (0 : Int) ≤ (k : Int) := by omega
    have hk1 : (k : Int) < (xs.length : Int) := by omega
    have hk2 : (0 : Int) ≤ (k : Int) - 1 := by omega
    have hk3 : (k : Int) - 1 < (xs.length : Int) := by omega
    have hk4 : ((k : Int) - 1).toNat = k - 1 := by omega
    have hk5 : IntKind.i64.wrap ((k : Int) - 1) = (k : Int) - 1 := IntWalk.i64_in _ (by omega)
    have HCX : Hid (∀ W, Below w.heap.size w W → W.cell? ⟨b, off + k, none⟩ = some (.int .i64 x) ∧ W.cell? ⟨b, off + (k - 1), none⟩ = some (.int .i64 y)) := Lib.hid (fun W q => ⟨cellOf q (by omega) hcx, cellOf q (by omega) hcy⟩)
    have CC := Lib.hid (fun W => cmpT x y W)
    generalize sgnT x y = r at *
    clear CY CN hg hx hs hc hk hkp hxk hyk hcx hcy hxb HLX
    go_enter Try.func18, Try.ntmps18
    go_wp2_with fail
    refine C.out.mono ?_
    rintro e w1 ⟨hee, hb⟩
    obtain rfl := hee (some ⟨b, off, none⟩) cap rfl
    clear hee
    have M1 := N0.trans (hb.mono N0.size)
    have hw01 : w.heap.size < w1.heap.size := Nat.lt_of_lt_of_le (by simp) hb.size
    obtain ⟨W1, hW1⟩ : ∃ W1, w1.alloc (.cells #[.slice (some ⟨b, off, none⟩) xs.length cap, .int .i64 s.pShort, .int .i64 s.pLong, .int .i64 s.pOn, .int .i64 s.pOff] 78) = W1 := ⟨_, rfl⟩
    have N1 : Below w.heap.size w W1 := hW1 ▸ M1.alloc M1.size _
    have bt : Bx W1 w1.heap.size (celT (some ⟨b, off, none⟩) xs.length cap s) := hW1 ▸ Bx.new w1 (celT (some ⟨b, off, none⟩) xs.length cap s) 78
    have bs1 : Bx W1 w.heap.size [.int .i64 s.pShort, .int .i64 s.pLong, .int .i64 s.pOn, .int .i64 s.pOff] := hW1 ▸ (bs.below hb).alloc _
    clear hb M1 bs N0 C
    have c0 := bt.2 0 _ rfl
    have c1 := bt.2 1 _ rfl
    have c2 := bt.2 2 _ rfl
    have c3 := bt.2 3 _ rfl
    have c4 := bt.2 4 _ rfl
    have d0 := bs1.2 0 _ rfl
    have d1 := bs1.2 1 _ rfl
    have d2 := bs1.2 2 _ rfl
    have d3 := bs1.2 3 _ rfl
    go_wp2_with fail
    clear hW1
    refine (CO.out _ N1).mono ?_
    rintro e w2 ⟨rfl, hb⟩
    have N2 := N1.trans (hb.mono N1.size)
    obtain ⟨x0, y0⟩ := HCX.out w2 N2
    clear hb bt bs1 N1
    clear c0 c1 c2 c3 c4 d0 d1 d2 d3
    go_wp2
    go_quiet ((go_at_call 73; exact Calls.quiet_of_same (CC.out _)))
    go_wp2
    go_ret2
    exact ⟨HF.out, drewN_b N2 _⟩
end Go.Proofs.Ytklilfbokpljkab
