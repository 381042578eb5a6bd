/- Triggers: the program's greatest ratio, its least threshold. -/
import Derived.Test.YtklilfbokpljkabTjE
import Derived.Test.YtklilfbokpljkabTgH
namespace Go.Proofs.Ytklilfbokpljkab
open Go.ChangeShapes Go.WideShapes Go.ChangeAt Go.RowKit Go.ChangeMaps Go.Sort Go.Shelf
set_option linter.unusedSimpArgs false
set_option linter.unusedVariables false
set_option linter.unusedSimpArgs false
set_option linter.unusedVariables false

set_option maxRecDepth 100000 in
set_option maxHeartbeats 4000000 in
theorem implGr (xs : List Int) (v : Value) (s : GSetting) (v2 : Value) (w : World) (B : Nat) (h : Lst (Value.int .i64) w B v xs) (h2 : SettingVL w B v2 s) (hB : B ≤ w.heap.size) (hn : xs.length ≤ 1048576) (_ : sz1Setting s ≤ 1048576) (hw : wfSetting s) :
    Calls Try.prog 21 #[v, v2] w fun e w' => e = .returned (.tuple #[.int .i64 (atGr xs s), .int .i64 (numGr xs s), .int .i64 (denGr xs s), .bool (okGr xs s)]) ∧ Below w.heap.size w w' := by
  obtain rfl := h2.form
  clear h2
  have N0 := (Below.refl w.heap.size w).alloc (Nat.le_refl _) (.cells #[.int .i64 s.pShort, .int .i64 s.pLong, .int .i64 s.pOn, .int .i64 s.pOff] 28)
  have bs := Bx.new w [.int .i64 s.pShort, .int .i64 s.pLong, .int .i64 s.pOn, .int .i64 s.pOff] 28
  have CY := Lib.hid (triggerForT xs v s _ B (h.below (N0.mono hB)) (Nat.le_trans hB N0.size) hw)
  have CN := Lib.hid (triggerNoT xs v s _ B (h.below (N0.mono hB)) (Nat.le_trans hB N0.size) hw)
  cases hg : goodTg xs s with
  | false =>
    have C := Lib.hid (CN.out hg)
    have HF := Lib.hid (noGr (xs := xs) (s := s) (by unfold okGr; rw [hg]; rfl))
    obtain ⟨ao, cap, rfl⟩ := h.form
    clear h CY CN hg
    go_enter Try.func21, Try.ntmps21
    go_wp2_with fail
    refine C.out.mono ?_
    rintro e w1 ⟨rfl, hb⟩
    have M1 := N0.trans (hb.mono N0.size)
    have M2 := M1.alloc M1.size (.cells #[.slice none 0 0, .int .i64 0, .int .i64 0, .int .i64 0, .int .i64 0] 78)
    go_wp2
    (try simp only [Exit.inBlock, Exit.then]); refine bodyPost_ret (results_tmp4 rfl _ _ _) rfl ?_
    exact ⟨HF.out, M2⟩
  | true =>
    have C := Lib.hid (CY.out hg)
    obtain ⟨hx, hs⟩ := goodTg_yes hg
    have hl24 := (okL_yes hx).2
    by_cases hp : s.pLong ≤ (xs.length : Int)
    case neg =>
      have HF := Lib.hid (noGr (xs := xs) (s := s) (by unfold okGr; rw [decide_eq_false hp, Bool.and_false]))
      have hp2 : (xs.length : Int) < s.pLong := by omega
      obtain ⟨ao, cap, rfl⟩ := h.form
      clear h CY CN hg hx hs hp
      go_enter Try.func21, Try.ntmps21
      go_wp2_with fail
      refine C.out.mono ?_
      rintro e w1 ⟨he, hb⟩
      obtain rfl := he ao cap rfl
      clear he
      have M1 := N0.trans (hb.mono N0.size)
      have hw01 : w.heap.size < w1.heap.size := Nat.lt_of_lt_of_le (by simp) hb.size
      obtain ⟨W1, hW1⟩ : ∃ W1, w1.alloc (.cells #[.slice ao xs.length cap, .int .i64 s.pShort, .int .i64 s.pLong, .int .i64 s.pOn, .int .i64 s.pOff] 78) = W1 := ⟨_, rfl⟩
      have N1 : Below w.heap.size w W1 := hW1 ▸ M1.alloc M1.size _
      have bt : Bx W1 w1.heap.size (celT ao xs.length cap s) := hW1 ▸ Bx.new w1 (celT ao xs.length cap s) 78
      have bs1 : Bx W1 w.heap.size [.int .i64 s.pShort, .int .i64 s.pLong, .int .i64 s.pOn, .int .i64 s.pOff] := hW1 ▸ (bs.below hb).alloc _
      clear hb M1 bs N0 C
      have c0 := bt.2 0 _ rfl
      have c1 := bt.2 1 _ rfl
      have c2 := bt.2 2 _ rfl
      have c3 := bt.2 3 _ rfl
      have c4 := bt.2 4 _ rfl
      have d0 := bs1.2 0 _ rfl
      have d1 := bs1.2 1 _ rfl
      have d2 := bs1.2 2 _ rfl
      have d3 := bs1.2 3 _ rfl
      go_wp2
      (try simp only [Exit.inBlock, Exit.then]); refine bodyPost_ret (results_tmp4 rfl _ _ _) rfl ?_
      exact ⟨HF.out, N1⟩
    have HOK : Hid (okGr xs s = true) := Lib.hid (by unfold okGr; rw [hg, decide_eq_true hp]; rfl)
    have HF := Lib.hid (fun k a b c hk ha hb hc => yesGr (k := k) (a := a) (b := b) (c := c) HOK.out hk ha hb hc)
    obtain ⟨ao, cap, rfl⟩ := h.form
    have CR : Hid (∀ (p : Nat) W, Below w.heap.size w W → s.pLong ≤ (p : Int) + 1 → p < xs.length → Calls Try.prog 77 #[aggT ao xs.length cap s, .int .i64 p] W fun e w' => e = .returned (.agg #[.int .i64 (numR (nT xs s p) (dT xs s p)), .int .i64 (denR (nT xs s p) (dT xs s p))]) ∧ Below W.heap.size W w') :=
      Lib.hid (fun p W q h0 hp => ratioT xs ao cap s p _ _ W B (h.below (q.mono hB)) (Nat.le_trans hB q.size) hx hs h0 hp rfl rfl)
    have CB : Hid (∀ p : Nat, s.pLong ≤ (p : Int) + 1 → p < xs.length → (0 ≤ nT xs s p ∧ nT xs s p ≤ 10000000) ∧ (1 ≤ dT xs s p ∧ dT xs s p ≤ 10000000)) := Lib.hid (fun p h0 hp => nT_bd (okL_yes hx).1 hs h0 hp)
    have HG : Hid (∀ k, grT xs s (k + 1) = if decide (nT xs s (grT xs s k) * dT xs s (plT s + k + 1) < nT xs s (plT s + k + 1) * dT xs s (grT xs s k)) then plT s + k + 1 else grT xs s k) := Lib.hid (fun k => rfl)
    have HGL := Lib.hid (fun k => grT_le xs s k)
    have HGB : Hid (bstR xs s = grT xs s (xs.length - s.pLong.toNat)) := Lib.hid rfl
    have HG0 : Hid (grT xs s 0 = plT s) := Lib.hid rfl
    have hpl : ((plT s : Nat) : Int) = s.pLong - 1 := by unfold plT; have := hs.1; have := hs.2.1; omega
    have CF := Lib.hid (fun W => firstPlaceT ao xs.length cap s W (by have := hs.1; have := hs.2.1; omega) (by have := hs.2.1; omega))
    generalize atGr xs s = r1 at *
    generalize numGr xs s = r2 at *
    generalize denGr xs s = r3 at *
    generalize okGr xs s = r4 at *
    generalize nT xs s = nf at *
    generalize dT xs s = df at *
    generalize grT xs s = gr at *
    generalize plT s = pl at *
    generalize bstR xs s = bs9 at *
    obtain ⟨⟨a1, a2⟩, ⟨b1, b2⟩, -, -⟩ := hs
    have hpn : pl < xs.length := by omega
    have hp1 : s.pLong ≤ (pl : Int) + 1 := by omega
    rw [← hpl] at CF
    have HPL := Lib.hid hpl
    have hp3 : ¬ (xs.length : Int) < s.pLong := by omega
    have CR0 := Lib.hid (fun W q => CR.out pl W q hp1 hpn)
    have CB0 := CB.out pl hp1 hpn
    have rb0 := red_bdQ (n := nf pl) (d := df pl) (N := 10000000) CB0.2.1 CB0.1.1 CB0.1.2
    have hpl24 : (pl : Int) < 24 := by omega
    clear h CY CN hg hx HOK CB0 hpl
    go_enter Try.func21, Try.ntmps21
    go_wp2_with fail
    refine C.out.mono ?_
    rintro e w1 ⟨he, hb⟩
    obtain rfl := he ao cap rfl
    clear he
    have M1 := N0.trans (hb.mono N0.size)
    have hw01 : w.heap.size < w1.heap.size := Nat.lt_of_lt_of_le (by simp) hb.size
    obtain ⟨W1, hW1⟩ : ∃ W1, w1.alloc (.cells #[.slice ao xs.length cap, .int .i64 s.pShort, .int .i64 s.pLong, .int .i64 s.pOn, .int .i64 s.pOff] 78) = W1 := ⟨_, rfl⟩
    have N1 : Below w.heap.size w W1 := hW1 ▸ M1.alloc M1.size _
    have bt : Bx W1 w1.heap.size (celT ao xs.length cap s) := hW1 ▸ Bx.new w1 (celT ao xs.length cap s) 78
    have bs1 : Bx W1 w.heap.size [.int .i64 s.pShort, .int .i64 s.pLong, .int .i64 s.pOn, .int .i64 s.pOff] := hW1 ▸ (bs.below hb).alloc _
    clear hb M1 bs N0 C
    have c0 := bt.2 0 _ rfl
    have c1 := bt.2 1 _ rfl
    have c2 := bt.2 2 _ rfl
    have c3 := bt.2 3 _ rfl
    have c4 := bt.2 4 _ rfl
    have d0 := bs1.2 0 _ rfl
    have d1 := bs1.2 1 _ rfl
    have d2 := bs1.2 2 _ rfl
    have d3 := bs1.2 3 _ rfl
    have HBT := Lib.hid bt
    go_wp2_with fail
    clear hW1
    refine (CF.out _).mono ?_
    rintro e w2 ⟨rfl, hb⟩
    have N2 := N1.trans (hb.mono N1.size)
    have bt2 := HBT.out.below hb
    clear hb bt bs1 N1 HBT
    clear c0 c1 c2 c3 c4 d0 d1 d2 d3
    have c0 := bt2.2 0 _ rfl
    have c1 := bt2.2 1 _ rfl
    have c2 := bt2.2 2 _ rfl
    have c3 := bt2.2 3 _ rfl
    have c4 := bt2.2 4 _ rfl
    have HBT := Lib.hid bt2
    go_wp2_with fail
    refine (CR0.out _ N2).mono ?_
    rintro e w3 ⟨rfl, hb⟩
    have N3 := N2.trans (hb.mono N2.size)
    have bt3 := HBT.out.below hb
    clear hb bt2 N2 c0 c1 c2 c3 c4 HBT
    obtain ⟨W3, hW3⟩ : ∃ W3, w3.alloc (.cells #[.int .i64 (numR (nf pl) (df pl)), .int .i64 (denR (nf pl) (df pl))] 87) = W3 := ⟨_, rfl⟩
    have N4 : Below w.heap.size w W3 := hW3 ▸ N3.alloc N3.size _
    have br : Bx W3 w3.heap.size [.int .i64 (numR (nf pl) (df pl)), .int .i64 (denR (nf pl) (df pl))] := hW3 ▸ Bx.new w3 [.int .i64 (numR (nf pl) (df pl)), .int .i64 (denR (nf pl) (df pl))] 87
    have bt4 : Bx W3 w1.heap.size (celT ao xs.length cap s) := hW3 ▸ bt3.alloc _
    have hne : w1.heap.size ≠ w3.heap.size := by have := bt3.1.1; omega
    have hwg : w.heap.size ≤ w3.heap.size := N3.size
    obtain ⟨bg, hbg⟩ : ∃ bg, w3.heap.size = bg := ⟨_, rfl⟩
    rw [hbg] at br hne hwg
    have r0 := br.2 0 _ rfl
    have r1 := br.2 1 _ rfl
    have HG00 : Hid ((pl : Int) = ((gr 0 : Nat) : Int) ∧ numR (nf pl) (df pl) = numR (nf (gr 0)) (df (gr 0)) ∧ denR (nf pl) (df pl) = denR (nf (gr 0)) (df (gr 0))) := Lib.hid (by rw [HG0.out]; exact ⟨rfl, rfl, rfl⟩)
    generalize numR (nf pl) (df pl) = n0 at *
    generalize denR (nf pl) (df pl) = d0 at *
    have HRB : Hid (∀ p : Nat, s.pLong ≤ (p : Int) + 1 → p < xs.length → (0 ≤ numR (nf p) (df p) ∧ numR (nf p) (df p) ≤ 10000000) ∧ (1 ≤ denR (nf p) (df p) ∧ denR (nf p) (df p) ≤ 10000000)) := Lib.hid (fun p h0 h1 => by
      have e := CB.out p h0 h1
      have := red_bdQ (n := nf p) (d := df p) (N := 10000000) e.2.1 e.1.1 e.1.2
      omega)
    clear rb0
    go_wp2
    clear hW3 hbg
    go_loopw [10, 12] (fun a i wr => ∃ (j : Nat) (N D : Int), i = .int .i64 ((pl + 1 + j : Nat) : Int) ∧ a = .int .i64 ((gr j : Nat) : Int) ∧ Hid (N = numR (nf (gr j)) (df (gr j)) ∧ D = denR (nf (gr j)) (df (gr j))) ∧ pl + 1 + j ≤ xs.length ∧ Bx wr bg [.int .i64 N, .int .i64 D] ∧ Bx wr w1.heap.size (celT ao xs.length cap s) ∧ Below w.heap.size w wr) (fun _ i _ => xs.length - (intOf i).toNat)
    case atStart => exact ⟨0, n0, d0, by go_num, by rw [HG00.out.1], Lib.hid HG00.out.2, by omega, br, bt4, N4⟩
    case round =>
      obtain ⟨j, N, D, rfl, rfl, HJ, hj, brr, btt, hbl⟩ := hrel
      clear r0 r1 br bt4 N4 HG00
      have hsz := hbl.size
      have r0 := brr.2 0 _ rfl
      have r1 := brr.2 1 _ rfl
      have c0 := btt.2 0 _ rfl
      have c1 := btt.2 1 _ rfl
      have c2 := btt.2 2 _ rfl
      have c3 := btt.2 3 _ rfl
      have c4 := btt.2 4 _ rfl
      have hgl := HGL.out j
      by_cases hlt : pl + 1 + j < xs.length
      case neg =>
        have hq : ¬ ((pl + 1 + j : Nat) : Int) < (xs.length : Int) := by omega
        have hmm : xs.length - s.pLong.toNat = j := by have := HPL.out; omega
        have HE := Lib.hid (HF.out (gr j) ((gr j : Nat) : Int) N D (by rw [HGB.out, hmm]) rfl HJ.out.1.symm HJ.out.2.symm)
        generalize ((pl + 1 + j : Nat) : Int) = ii at *
        generalize ((gr j : Nat) : Int) = gm at *
        go_wp2
        go_quiet (fail)
        go_wp2
        (try simp only [Exit.inBlock, Exit.then]); refine bodyPost_ret (results_tmp4 rfl _ _ _) rfl ?_
        exact ⟨HE.out, drewN_b hbl _⟩
      have hq : ((pl + 1 + j : Nat) : Int) < (xs.length : Int) := by omega
      have hp9 : s.pLong ≤ ((pl + 1 + j : Nat) : Int) + 1 := by have := HPL.out; omega
      have hg9 : s.pLong ≤ ((gr j : Nat) : Int) + 1 := by have := HPL.out; omega
      have C := CR.out (pl + 1 + j) wr hbl hp9 hlt
      have rb1 := HRB.out (pl + 1 + j) hp9 hlt
      have rb2 := HRB.out (gr j) hg9 (by omega)
      have e1 := (CB.out (pl + 1 + j) hp9 hlt).2.1
      have e2 := (CB.out (gr j) hg9 (by omega)).2.1
      have hcmp := red_cmpQ (a := nf (pl + 1 + j)) (b := df (pl + 1 + j)) (c := nf (gr j)) (d := df (gr j)) e1 e2
      have hst : gr (j + 1) = if decide (nf (gr j) * df (pl + j + 1) < nf (pl + j + 1) * df (gr j)) then pl + j + 1 else gr j := HG.out j
      rw [show pl + j + 1 = pl + 1 + j by omega] at hst
      rw [← HJ.out.1, ← HJ.out.2] at hcmp rb2
      obtain ⟨a, ha⟩ : ∃ a, numR (nf (pl + 1 + j)) (df (pl + 1 + j)) = a := ⟨_, rfl⟩
      obtain ⟨b, hb⟩ : ∃ b, denR (nf (pl + 1 + j)) (df (pl + 1 + j)) = b := ⟨_, rfl⟩
      rw [ha, hb] at C hcmp rb1
      have HAB := Lib.hid (show a = numR (nf (pl + 1 + j)) (df (pl + 1 + j)) ∧ b = denR (nf (pl + 1 + j)) (df (pl + 1 + j)) from ⟨ha.symm, hb.symm⟩)
      have HY : Hid (N * b < a * D → gr (j + 1) = pl + 1 + j) := Lib.hid (fun h => by
        rw [hst, decide_eq_true (Int.not_le.1 fun g => by have := hcmp.2 g; omega), if_pos rfl])
      have HN : Hid (a * D ≤ N * b → gr (j + 1) = gr j) := Lib.hid (fun h => by
        rw [hst, decide_eq_false (Int.not_lt.2 (hcmp.1 h)), if_neg Bool.false_ne_true])
      have CG := Lib.hid (fun u W hu => greaterT a b N D u W (by omega) hu)
      clear ha hb hst hcmp e1 e2
      have HC := Lib.hid C
      have HBR := Lib.hid brr
      have HBT := Lib.hid btt
      clear C brr btt
      go_wp2_with fail
      refine HC.out.mono ?_
      rintro e w4 ⟨rfl, hb⟩
      have N5 := hbl.trans (hb.mono hsz)
      have br4 := HBR.out.below hb
      have bt4 := HBT.out.below hb
      clear r0 r1 c0 c1 c2 c3 c4 hb hbl HC HBR HBT
      obtain ⟨W5, hW5⟩ : ∃ W5, w4.alloc (.cells #[.int .i64 a, .int .i64 b] 87) = W5 := ⟨_, rfl⟩
      have N6 : Below w.heap.size w W5 := hW5 ▸ N5.alloc N5.size _
      have b5 : Bx W5 w4.heap.size [.int .i64 a, .int .i64 b] := hW5 ▸ Bx.new w4 [.int .i64 a, .int .i64 b] 87
      have br5 : Bx W5 bg [.int .i64 N, .int .i64 D] := hW5 ▸ br4.alloc _
      have bt5 : Bx W5 w1.heap.size (celT ao xs.length cap s) := hW5 ▸ bt4.alloc _
      have hne2 : w4.heap.size ≠ bg := by have := br4.1.1; omega
      clear N5 br4 bt4
      have r0 := br5.2 0 _ rfl
      have r1 := br5.2 1 _ rfl
      have q0 := b5.2 0 _ rfl
      have q1 := b5.2 1 _ rfl
      by_cases hc : N * b < a * D
      case pos =>
        have CG2 := Lib.hid (fun W => CG.out true W (decide_eq_true hc))
        have HG2 := Lib.hid (HY.out hc)
        go_wp2_with fail
        clear hW5
        refine (CG2.out _).mono ?_
        rintro e w6 ⟨rfl, hb⟩
        have br6 := br5.below hb
        have bt6 := bt5.below hb
        have b6 := b5.below hb
        have N7 := N6.trans (hb.mono N6.size)
        clear hb r0 r1 q0 q1 br5 bt5 b5 N6
        have r0 := br6.2 0 _ rfl
        have r1 := br6.2 1 _ rfl
        have q0 := b6.2 0 _ rfl
        have q1 := b6.2 1 _ rfl
        have rf := br6.1.2
        go_wp2
        have br7 : Bx (((w6.setCell ⟨bg, 0, none⟩ (.int .i64 a)).setCell ⟨bg, 1, none⟩ (.int .i64 b)).drew) bg [.int .i64 a, .int .i64 b] := ((br6.set 0 (by simp) (.int .i64 a)).set 1 (by simp) (.int .i64 b)).drewN 1
        have bt7 : Bx (((w6.setCell ⟨bg, 0, none⟩ (.int .i64 a)).setCell ⟨bg, 1, none⟩ (.int .i64 b)).drew) w1.heap.size (celT ao xs.length cap s) := ((bt6.setOther (p := ⟨bg, 0, none⟩) (fun e => hne e.symm) (.int .i64 a)).setOther (p := ⟨bg, 1, none⟩) (fun e => hne e.symm) (.int .i64 b)).drewN 1
        have N8 : Below w.heap.size w (((w6.setCell ⟨bg, 0, none⟩ (.int .i64 a)).setCell ⟨bg, 1, none⟩ (.int .i64 b)).drew) := ((N7.setCell (p := ⟨bg, 0, none⟩) hwg (.int .i64 a)).setCell (p := ⟨bg, 1, none⟩) hwg (.int .i64 b)).drew
        have HJ2 : Hid (a = numR (nf (gr (j + 1))) (df (gr (j + 1))) ∧ b = denR (nf (gr (j + 1))) (df (gr (j + 1)))) := Lib.hid (by rw [HG2.out]; exact HAB.out)
        go_region
        clear r0 r1 q0 q1 rf br6 bt6 b6 N7
        go_wp2
        go_roundw
        case rel => exact ⟨j + 1, a, b, by go_num, by rw [HG2.out]; go_num, HJ2, by omega, br7, bt7, N8⟩
        case measure => simp [intOf]; omega
      case neg =>
        have CG2 := Lib.hid (fun W => CG.out false W (decide_eq_false hc))
        have HJ2 : Hid (N = numR (nf (gr (j + 1))) (df (gr (j + 1))) ∧ D = denR (nf (gr (j + 1))) (df (gr (j + 1)))) := Lib.hid (by rw [HN.out (Int.not_lt.1 hc)]; exact HJ.out)
        have HG2 := Lib.hid (HN.out (Int.not_lt.1 hc))
        go_wp2_with fail
        clear hW5
        refine (CG2.out _).mono ?_
        rintro e w6 ⟨rfl, hb⟩
        have br6 := br5.below hb
        have bt6 := bt5.below hb
        have N7 := N6.trans (hb.mono N6.size)
        clear hb r0 r1 q0 q1 br5 bt5 b5 N6
        go_wp2
        go_roundw
        case rel => exact ⟨j + 1, N, D, by go_num, by rw [HG2.out], HJ2, by omega, br6, bt6, N7⟩
        case measure => simp [intOf]; omega
set_option maxRecDepth 100000 in
set_option maxHeartbeats 4000000 in
theorem implLe (xs : List Int) (v : Value) (s : GSetting) (v2 : Value) (w : World) (B : Nat) (h : Lst (Value.int .i64) w B v xs) (h2 : SettingVL w B v2 s) (hB : B ≤ w.heap.size) (hn : xs.length ≤ 1048576) (_ : sz1Setting s ≤ 1048576) (hw : wfSetting s) :
    Calls Try.prog 25 #[v, v2] w fun e w' => e = .returned (.tuple #[.int .i64 (numLe xs s), .bool (okLe xs s)]) ∧ Below w.heap.size w w' := by
  obtain rfl := h2.form
  clear h2
  have N0 := (Below.refl w.heap.size w).alloc (Nat.le_refl _) (.cells #[.int .i64 s.pShort, .int .i64 s.pLong, .int .i64 s.pOn, .int .i64 s.pOff] 28)
  have bs := Bx.new w [.int .i64 s.pShort, .int .i64 s.pLong, .int .i64 s.pOn, .int .i64 s.pOff] 28
  have CY := Lib.hid (triggerForT xs v s _ B (h.below (N0.mono hB)) (Nat.le_trans hB N0.size) hw)
  have CN := Lib.hid (triggerNoT xs v s _ B (h.below (N0.mono hB)) (Nat.le_trans hB N0.size) hw)
  cases hg : goodTg xs s with
  | false =>
    have C := Lib.hid (CN.out hg)
    have HF := Lib.hid (noLe (xs := xs) (s := s) (by unfold okLe; rw [hg]; rfl))
    obtain ⟨ao, cap, rfl⟩ := h.form
    clear h CY CN hg
    go_enter Try.func25, Try.ntmps25
    go_wp2
    go_step3
    go_wp2_with fail
    refine C.out.mono ?_
    rintro e w1 ⟨rfl, hb⟩
    have M1 := N0.trans (hb.mono N0.size)
    have M2 := M1.alloc M1.size (.cells #[.slice none 0 0, .int .i64 0, .int .i64 0, .int .i64 0, .int .i64 0] 78)
    go_wp2
    (try rw [Exit.noGoto_ret])
    go_ret2
    exact ⟨HF.out, M2⟩
  | true =>
    have C := Lib.hid (CY.out hg)
    obtain ⟨hx, hs⟩ := goodTg_yes hg
    have hl24 := (okL_yes hx).2
    have HY := Lib.hid (fun k hk h => yesLe (xs := xs) (s := s) (k := k) hg hk h)
    have HN := Lib.hid (fun (h : ¬ leT xs s < 1001) => noLe (xs := xs) (s := s) (by unfold okLe; rw [decide_eq_false h, Bool.and_false]))
    have HLE : Hid (leT xs s = nxT (noneT xs s) 1001 s.pOff.toNat) := Lib.hid rfl
    have HNI : Hid (∀ t : Nat, noneT xs s t = decide (nxT (loudT xs s (t : Int)) xs.length (plT s) = xs.length)) := Lib.hid (fun t => rfl)
    have HLO : Hid (∀ (t : Int) (p : Nat), loudT xs s t p = decide (t * dT xs s p ≤ 10 * nT xs s p)) := Lib.hid (fun t p => rfl)
    obtain ⟨ao, cap, rfl⟩ := h.form
    have CR : Hid (∀ (p : Nat) W, Below w.heap.size w W → s.pLong ≤ (p : Int) + 1 → p < xs.length → Calls Try.prog 77 #[aggT ao xs.length cap s, .int .i64 p] W fun e w' => e = .returned (.agg #[.int .i64 (numR (nT xs s p) (dT xs s p)), .int .i64 (denR (nT xs s p) (dT xs s p))]) ∧ Below W.heap.size W w') :=
      Lib.hid (fun p W q h0 hp => ratioT xs ao cap s p _ _ W B (h.below (q.mono hB)) (Nat.le_trans hB q.size) hx hs h0 hp rfl rfl)
    have CB : Hid (∀ p : Nat, s.pLong ≤ (p : Int) + 1 → p < xs.length → (0 ≤ nT xs s p ∧ nT xs s p ≤ 10000000) ∧ (1 ≤ dT xs s p ∧ dT xs s p ≤ 10000000)) := Lib.hid (fun p h0 hp => nT_bd (okL_yes hx).1 hs h0 hp)
    have hpl : ((plT s : Nat) : Int) = s.pLong - 1 := by unfold plT; have := hs.1; have := hs.2.1; omega
    have CF := Lib.hid (fun W => firstPlaceT ao xs.length cap s W (by have := hs.1; have := hs.2.1; omega) (by have := hs.2.1; omega))
    obtain ⟨⟨a1, a2⟩, ⟨b1, b2⟩, ⟨p1, p2⟩, q1, q2⟩ := hs
    generalize numLe xs s = r1 at *
    generalize okLe xs s = r2 at *
    generalize leT xs s = le at *
    generalize noneT xs s = nf at *
    generalize loudT xs s = lf at *
    generalize nT xs s = nu at *
    generalize dT xs s = de at *
    generalize plT s = pl at *
    rw [← hpl] at CF
    have HPL := Lib.hid hpl
    have hpl24 : (pl : Int) < 24 := by omega
    clear h CY CN hg hx hpl
    go_enter Try.func25, Try.ntmps25
    go_wp2
    go_step3
    go_wp2_with fail
    refine C.out.mono ?_
    rintro e w1 ⟨he, hb⟩
    obtain rfl := he ao cap rfl
    clear he
    have M1 := N0.trans (hb.mono N0.size)
    have hw01 : w.heap.size < w1.heap.size := Nat.lt_of_lt_of_le (by simp) hb.size
    obtain ⟨W1, hW1⟩ : ∃ W1, w1.alloc (.cells #[.slice ao xs.length cap, .int .i64 s.pShort, .int .i64 s.pLong, .int .i64 s.pOn, .int .i64 s.pOff] 78) = W1 := ⟨_, rfl⟩
    have N1 : Below w.heap.size w W1 := hW1 ▸ M1.alloc M1.size _
    have bt : Bx W1 w1.heap.size (celT ao xs.length cap s) := hW1 ▸ Bx.new w1 (celT ao xs.length cap s) 78
    have bs1 : Bx W1 w.heap.size [.int .i64 s.pShort, .int .i64 s.pLong, .int .i64 s.pOn, .int .i64 s.pOff] := hW1 ▸ (bs.below hb).alloc _
    clear hb M1 bs N0 C
    have c0 := bt.2 0 _ rfl
    have c1 := bt.2 1 _ rfl
    have c2 := bt.2 2 _ rfl
    have c3 := bt.2 3 _ rfl
    have c4 := bt.2 4 _ rfl
    have d0 := bs1.2 0 _ rfl
    have d1 := bs1.2 1 _ rfl
    have d2 := bs1.2 2 _ rfl
    have d3 := bs1.2 3 _ rfl
    go_wp2
    go_step3
    go_wp2
    clear hW1
    go_loopw [8, 9] (fun i z wr => ∃ (t : Nat), i = .int .i64 (t : Int) ∧ s.pOff ≤ (t : Int) ∧ (t : Int) ≤ 1001 ∧ Hid (le = nxT nf 1001 t) ∧ Bx wr w1.heap.size (celT ao xs.length cap s) ∧ Below w.heap.size w wr) (fun i _ _ => 1001 - (intOf i).toNat)
    case atStart => exact ⟨s.pOff.toNat, by rw [Int.toNat_of_nonneg (by omega)], by omega, by omega, HLE, bt, N1⟩
    case round =>
      obtain ⟨t, rfl, ht0, ht1, HL, btt, hbl⟩ := hrel
      clear bt bs1 N1 c0 c1 c2 c3 c4 d0 d1 d2 d3
      have hsz := hbl.size
      by_cases hlt : (t : Int) ≤ 1000
      case neg =>
        have HE := Lib.hid (HN.out (by rw [HL.out, nxT_end (by omega)]; omega))
        go_wp2
        (try rw [Exit.noGoto_ret])
        go_ret2
        exact ⟨HE.out, hbl⟩
      have c0 := btt.2 0 _ rfl
      have c1 := btt.2 1 _ rfl
      have c2 := btt.2 2 _ rfl
      have c3 := btt.2 3 _ rfl
      have c4 := btt.2 4 _ rfl
      have HBT := Lib.hid btt
      go_wp2_with fail
      refine (CF.out _).mono ?_
      rintro e w4 ⟨rfl, hb⟩
      have N4 := hbl.trans (hb.mono hsz)
      have bt4 := HBT.out.below hb
      clear c0 c1 c2 c3 c4 hbl hb HBT btt
      have HI := Lib.hid (HNI.out t)
      have HLF := Lib.hid (HLO.out (t : Int))
      generalize hlf : lf (t : Int) = lt at *
      go_wp2
      rename World => wo
      go_loopw [9] (fun i wr => ∃ (k : Nat), pl ≤ k ∧ (k : Int) ≤ 100 ∧ i = .int .i64 (k : Int) ∧ Hid (nxT lt xs.length k = nxT lt xs.length pl) ∧ Bx wr w1.heap.size (celT ao xs.length cap s) ∧ Below w.heap.size w wr) (fun i _ => xs.length - (intOf i).toNat)
      case atStart => exact ⟨pl, Nat.le_refl _, by omega, rfl, Lib.hid rfl, bt4, N4⟩
      case round =>
        obtain ⟨k, hpk, hk100, rfl, HK, btk, hbk⟩ := hrel
        clear bt4 N4
        have hszk := hbk.size
        by_cases hkn : k < xs.length
        case neg =>
          have hkn2 : ¬ (k : Int) < (xs.length : Int) := by omega
          have HE := Lib.hid (HY.out t (by rw [HL.out]; exact nxT_yes (by omega) (by rw [HI.out]; exact decide_eq_true (by rw [← HK.out, nxT_end (by omega)]))) (by omega))
          go_wp2
          (try rw [Exit.noGoto_ret])
          go_ret2
          exact ⟨HE.out, hbk⟩
        have hkn2 : (k : Int) < (xs.length : Int) := by omega
        have hp9 : s.pLong ≤ (k : Int) + 1 := by have := HPL.out; omega
        have C := CR.out k wr hbk hp9 hkn
        have e0 := CB.out k hp9 hkn
        have rb := red_bdQ (n := nu k) (d := de k) (N := 10000000) e0.2.1 e0.1.1 e0.1.2
        have hq : lt k = decide ((t : Int) * denR (nu k) (de k) ≤ 10 * numR (nu k) (de k)) := by
          rw [HLF.out k, decide_eq_decide]
          exact (red_leQ e0.2.1 10 (t : Int)).symm
        generalize numR (nu k) (de k) = a at *
        generalize denR (nu k) (de k) = b at *
        have c0 := btk.2 0 _ rfl
        have c1 := btk.2 1 _ rfl
        have c2 := btk.2 2 _ rfl
        have c3 := btk.2 3 _ rfl
        have c4 := btk.2 4 _ rfl
        cases hf : lt k with
        | true =>
          have CL := Lib.hid (fun W => leastOfT a b (t : Int) true W (by omega) (by rw [← hq, hf]))
          have HL2 : Hid (le = nxT nf 1001 (t + 1)) := Lib.hid (by rw [HL.out]; exact nxT_no (by omega) (by rw [HI.out]; exact decide_eq_false (by rw [← HK.out, nxT_yes hkn hf]; omega)))
          have HC := Lib.hid C
          have HBT := Lib.hid btk
          clear hq hf C btk e0 rb
          go_wp2_with fail
          refine HC.out.mono ?_
          rintro e w5 ⟨rfl, hb⟩
          have N5 := hbk.trans (hb.mono hszk)
          have bt5 := HBT.out.below hb
          clear c0 c1 c2 c3 c4 hbk hb HBT HC
          go_wp2_with fail
          refine (CL.out _).mono ?_
          rintro e w6 ⟨rfl, hb⟩
          have N6 := N5.trans (hb.mono N5.size)
          have bt6 := bt5.below hb
          clear N5 bt5 hb
          go_wp2
          exact ⟨⟨t + 1, by go_num, by omega, by omega, HL2, bt6, N6⟩, by simp [intOf]; omega⟩
        | false =>
          have CL := Lib.hid (fun W => leastOfT a b (t : Int) false W (by omega) (by rw [← hq, hf]))
          have HK2 : Hid (nxT lt xs.length (k + 1) = nxT lt xs.length pl) := Lib.hid (by rw [← HK.out, nxT_no hkn hf])
          have HC := Lib.hid C
          have HBT := Lib.hid btk
          clear hq hf C btk e0 rb
          go_wp2_with fail
          refine HC.out.mono ?_
          rintro e w5 ⟨rfl, hb⟩
          have N5 := hbk.trans (hb.mono hszk)
          have bt5 := HBT.out.below hb
          clear c0 c1 c2 c3 c4 hbk hb HBT HC
          go_wp2_with fail
          refine (CL.out _).mono ?_
          rintro e w6 ⟨rfl, hb⟩
          have N6 := N5.trans (hb.mono N5.size)
          have bt6 := bt5.below hb
          clear N5 bt5 hb
          go_wp2
          go_roundw
          case rel => exact ⟨k + 1, by omega, by omega, by go_num, HK2, bt6, N6⟩
          case measure => simp [intOf]; omega
end Go.Proofs.Ytklilfbokpljkab
