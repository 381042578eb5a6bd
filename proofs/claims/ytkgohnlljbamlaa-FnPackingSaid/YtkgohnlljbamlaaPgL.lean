/- FnPacking: for every code the law answers true; no condition. -/
import Derived.Test.YtkgohnlljbamlaaPkG
import Derived.Lib.QuietBelow
namespace Go.Proofs.Ytkgohnlljbamlaa.fnPacking
open Go.ChangeShapes Go.WideShapes Go.ChangeAt Go.RowKit Go.ChangeMaps Go.Sort
set_option linter.unusedSimpArgs false
set_option linter.unusedVariables false

theorem own : ownKnob Try.prog.godebug = none := by kernel_rfl

theorem implPckF (xs : List Int) (v : Value) (w : World) (B : Nat) (h : Lst (Value.int .i64) w B v xs) (hB : B ≤ w.heap.size) (hn : xs.length ≤ 1048576) (hk : okL xs = false) :
    Calls Try.prog 28 #[v] w fun e w' => ∃ v', e = .returned (.tuple #[v', .bool false]) ∧ Own (Value.int .i64) w' w.heap.size w'.heap.size v' [] ∧ Below w.heap.size w w' := by
  have := implPck xs v w B h hB hn
  rwa [show resPck xs = [] by unfold resPck; rw [hk]; rfl, hk] at this
theorem specPckF (xs : List Int) (v : Value) (w : World) (B : Nat) (h : Lst (Value.int .i64) w B v xs) (hB : B ≤ w.heap.size) (hn : xs.length ≤ 1048576) (hk : okL xs = false) :
    Calls Try.prog 27 #[v] w fun e w' => ∃ v', e = .returned (.tuple #[v', .bool false]) ∧ Own (Value.int .i64) w' w.heap.size w'.heap.size v' [] ∧ Below w.heap.size w w' := by
  have := specPck xs v w B h hB hn
  rwa [show resPck xs = [] by unfold resPck; rw [hk]; rfl, hk] at this
theorem specPckT (xs : List Int) (v : Value) (w : World) (B : Nat) (h : Lst (Value.int .i64) w B v xs) (hB : B ≤ w.heap.size) (hn : xs.length ≤ 1048576) (hk : okL xs = true) :
    Calls Try.prog 27 #[v] w fun e w' => ∃ v', e = .returned (.tuple #[v', .bool true]) ∧ Own (Value.int .i64) w' w.heap.size w'.heap.size v' (pk xs) ∧ Below w.heap.size w w' := by
  have := specPck xs v w B h hB hn
  rwa [show resPck xs = pk xs by unfold resPck; rw [hk]; rfl, hk] at this
theorem implUnpT (xs : List Int) (v : Value) (w : World) (B : Nat) (h : Lst (Value.int .i64) w B v (pk xs)) (hB : B ≤ w.heap.size) (hk : okL xs = true) :
    Calls Try.prog 30 #[v] w fun e w' => ∃ v', e = .returned (.tuple #[v', .bool true]) ∧ Own (Value.int .i64) w' w.heap.size w'.heap.size v' xs ∧ Below w.heap.size w w' := by
  have := implUnp (pk xs) v w B h hB (by have := (pk_bytes hk).2; omega)
  rwa [(unp_pk hk).1, (unp_pk hk).2] at this
theorem implWcT (xs : List Int) (v : Value) (w : World) (B : Nat) (h : Lst (Value.int .i64) w B v xs) (hB : B ≤ w.heap.size) (hn : xs.length ≤ 1048576) (hk : okL xs = true) :
    Calls Try.prog 36 #[v] w fun e w' => ∃ b off cap, e = .returned (.tuple #[.slice (some ⟨b, off, none⟩) 3 cap, .bool true]) ∧ (w'.cell? ⟨b, off, none⟩ = some (.int .i64 (cntW (dif xs) 0)) ∧ w'.cell? ⟨b, off + 1, none⟩ = some (.int .i64 (cntW (dif xs) 1)) ∧ w'.cell? ⟨b, off + 2, none⟩ = some (.int .i64 (cntW (dif xs) 2))) ∧ Lst (Value.int .i64) w' w'.heap.size (.slice (some ⟨b, off, none⟩) 3 cap) (wc (dif xs)) ∧ Below w.heap.size w w' := by
  have := implWc xs v w B h hB hn
  rw [show resWc xs = wc (dif xs) by unfold resWc; rw [hk]; rfl, hk] at this
  refine this.mono ?_
  rintro e w' ⟨v', rfl, ho, hb⟩
  have hl := ho.lst
  obtain ⟨ao, cap, hv, g1, g2, g3, g4⟩ := id hl
  obtain ⟨b, off, rfl, _, c0⟩ := g4 0 _ rfl
  obtain ⟨b', off', e1, _, c1⟩ := g4 1 _ rfl
  cases e1
  obtain ⟨b', off', e1, _, c2⟩ := g4 2 _ rfl
  cases e1
  have hv2 : v' = .slice (some ⟨b, off, none⟩) 3 cap := hv
  subst hv2
  exact ⟨b, off, cap, rfl, ⟨c0, c1, c2⟩, hl, hb⟩
theorem vSum_wc (xs : List Int) (v : Value) (w : World) (B : Nat) (h : Lst (Value.int .i64) w B v (wc (dif xs))) (hk : okL xs = true) :
    Calls Try.prog 40 #[v] w fun e w' => e = .returned (.int .i64 (xs.length : Int)) ∧ Below w.heap.size w w' := by
  obtain ⟨s1, s2, s3, s4, s5⟩ := cntW_sum (dif xs)
  rw [dif_len] at s1
  have h24 := (okL_yes hk).2
  have := vSum_is (wc (dif xs)) v w B h (by intro x hx; unfold wc at hx; simp at hx; rcases hx with rfl | rfl | rfl <;> omega) (by unfold wc; simp)
  rw [show (wc (dif xs)).sum = (xs.length : Int) by unfold wc; simp; omega] at this
  exact this.mono fun e w' ⟨h1, h2⟩ => ⟨h1, h2 ▸ Below.refl _ _⟩
theorem lst_take {w : World} {B b off n cap : Nat} {xs : List Int} (h : Lst (Value.int .i64) w B (.slice (some ⟨b, off, none⟩) n cap) xs) (m : Nat) (hm : m ≤ xs.length) : Lst (Value.int .i64) w B (.slice (some ⟨b, off, none⟩) m cap) (xs.take m) := by
  have := h.sub 0 m (Nat.zero_le _) hm
  simpa using this
theorem implReaT (xs : List Int) (m j : Nat) (v : Value) (w : World) (B : Nat) (h : Lst (Value.int .i64) w B v ((pk xs).take m)) (hB : B ≤ w.heap.size) (hk : okL xs = true) (hj : resRea ((pk xs).take m) = xs.take j) :
    Calls Try.prog 34 #[v] w fun e w' => ∃ v', e = .returned (.tuple #[v', .bool true]) ∧ Own (Value.int .i64) w' w.heap.size w'.heap.size v' (xs.take j) ∧ Below w.heap.size w w' := by
  have := implRea ((pk xs).take m) v w B h hB (by have := (pk_bytes hk).2; rw [List.length_take]; omega)
  rwa [okB_pk hk, hj] at this
theorem implPckB (l : List Int) (v : Value) (w : World) (B : Nat) (h : Lst (Value.int .i64) w B v (resUnp l)) (hB : B ≤ w.heap.size) (hk : okUnp l = true) :
    Calls Try.prog 28 #[v] w fun e w' => ∃ v', e = .returned (.tuple #[v', .bool true]) ∧ Own (Value.int .i64) w' w.heap.size w'.heap.size v' l ∧ Below w.heap.size w w' := by
  obtain ⟨e1, e2, _, _⟩ := unp_back hk
  have := implPck (resUnp l) v w B h hB (resUnp_len l)
  rwa [e1, e2] at this
theorem implTorB (l : List Int) (v : Value) (w : World) (B : Nat) (h : Lst (Value.int .i64) w B v l) (hB : B ≤ w.heap.size) (hn : l.length ≤ 1048576) (hk : okUnp l = true) :
    Calls Try.prog 32 #[v] w fun e w' => e = .returned (.tuple #[.int .i64 (l.length : Int), .bool true]) ∧ Below w.heap.size w w' := by
  obtain ⟨_, _, e3, e4⟩ := unp_back hk
  have := implTor l v w B h hB hn
  rwa [e3, e4] at this
theorem resTor_le {l : List Int} (h : okB l = true) : resTor l ≤ (l.length : Int) := by
  unfold resTor
  rw [if_pos h]
  have := tn_le h
  omega
set_option maxRecDepth 100000 in
set_option maxHeartbeats 16000000 in
theorem walk_main (ao : Option Addr) (n cap : Nat) (w : World) (hn : n ≤ 65536) (hcode : Code w w.heap.size ao n) :
    Calls Try.prog 12 #[.slice ao n cap] w fun e w' => e = .returned (.bool true) ∧ Below w.heap.size w w' := by
  have C0 : CodeArg w w.heap.size (.slice ao n cap) := ⟨Nat.le_refl _, ao, n, cap, rfl, hn, hcode⟩
  clear hcode
  have hni : (n : Int) ≤ 65536 := by omega
  have sb0 := St.chain w
  have sc0 := St.code C0
  clear C0
  go_enter Try.func12, Try.ntmps12
  go_wp2_with fail
  refine (vBig_no n cap ao w hni).mono ?_
  rintro e w1 ⟨rfl, hw1⟩
  obtain rfl := hw1.symm
  go_wp2_with fail
  refine (drawPckR w _ _ sc0.now).mono ?_
  rintro e w2 ⟨v1, xs, rfl, hd1, hr1, hb2⟩
  have sb_2 := sb0.step hb2
  have sc_2 := sc0.step hb2
  clear sb0 sc0 hb2
  have sx3 := St.own (Own.of_row hr1)
  have hx9 : xs.length ≤ 1048576 := by omega
  cases hk : okL xs with
  | false =>
    go_wp2_with fail
    refine (implPckF xs v1 w2 _ sx3.now (Nat.le_refl _) hx9 hk).mono ?_
    rintro e w4 ⟨v2, rfl, ho2, hb4⟩
    have sb_4 := sb_2.step hb4
    have sc_4 := sc_2.step hb4
    have sx_4 := sx3.step hb4
    clear sb_2 sc_2 sx3 hb4
    have si5 := St.own ho2
    clear ho2
    go_wp2_with fail
    refine (specPckF xs v1 w4 _ sx_4.now (Nat.le_refl _) hx9 hk).mono ?_
    rintro e w6 ⟨v3, rfl, ho3, hb6⟩
    have sb_6 := sb_4.step hb6
    have sc_6 := sc_4.step hb6
    have sx_6 := sx_4.step hb6
    have si_6 := si5.step hb6
    clear sb_4 sc_4 sx_4 si5 hb6
    have so7 := St.own ho3
    clear ho3
    go_wp2_with fail
    refine (vInts_same _ v2 v3 w6 _ si_6.now so7.now (Nat.le_refl _)).mono ?_
    rintro e w8 ⟨rfl, hb8⟩
    have sb_8 := sb_6.step hb8
    have sc_8 := sc_6.step hb8
    have sx_8 := sx_6.step hb8
    have si_8 := si_6.step hb8
    have so_8 := so7.step hb8
    clear sb_6 sc_6 sx_6 si_6 so7 hb8
    clear si_8 so_8 sx_8
    go_wp2_with fail
    refine (drawUnp w8 _ _ sc_8.now).mono ?_
    rintro e w9 ⟨v20, ls, rfl, hd20, ho20, hb9⟩
    have sb_9 := sb_8.step hb9
    have sc_9 := sc_8.step hb9
    clear sb_8 sc_8 hb9
    have sl10 := St.own ho20
    clear ho20
    have hl9 : ls.length ≤ 1048576 := by omega
    go_wp2_with fail
    refine (implUnp ls v20 w9 _ sl10.now (Nat.le_refl _) hl9).mono ?_
    rintro e w11 ⟨v21, rfl, ho21, hb11⟩
    have sb_11 := sb_9.step hb11
    have sc_11 := sc_9.step hb11
    have sl_11 := sl10.step hb11
    clear sb_9 sc_9 sl10 hb11
    have sp12 := St.own ho21
    clear ho21
    go_wp2_with fail
    refine (specUnp ls v20 w11 _ sl_11.now (Nat.le_refl _) hl9).mono ?_
    rintro e w13 ⟨v22, rfl, ho22, hb13⟩
    have sb_13 := sb_11.step hb13
    have sc_13 := sc_11.step hb13
    have sl_13 := sl_11.step hb13
    have sp_13 := sp12.step hb13
    clear sb_11 sc_11 sl_11 sp12 hb13
    have sq14 := St.own ho22
    clear ho22
    cases hk3 : okUnp ls with
    | false =>
      go_wp2_with fail
      refine (vInts_same _ v21 v22 w13 _ sp_13.now sq14.now (Nat.le_refl _)).mono ?_
      rintro e w15 ⟨rfl, hb15⟩
      have sb_15 := sb_13.step hb15
      have sc_15 := sc_13.step hb15
      have sl_15 := sl_13.step hb15
      have sp_15 := sp_13.step hb15
      have sq_15 := sq14.step hb15
      clear sb_13 sc_13 sl_13 sp_13 sq14 hb15
      clear sq_15
      clear sp_15 sl_15
      clear hk3
      go_wp2_with fail
      refine (drawRea w15 _ _ sc_15.now).mono ?_
      rintro e w16 ⟨v30, ys, rfl, hd30, ho30, hb16⟩
      have sb_16 := sb_15.step hb16
      have sc_16 := sc_15.step hb16
      clear sb_15 sc_15 hb16
      have sl17 := St.own ho30
      clear ho30
      have hy9 : ys.length ≤ 1048576 := by omega
      obtain ⟨ay, cy, hvy, -⟩ := id sl17.now
      subst hvy
      go_wp2_with fail
      refine (implRea ys _ w16 _ sl17.now (Nat.le_refl _) hy9).mono ?_
      rintro e w18 ⟨v31, rfl, ho31, hb18⟩
      have sb_18 := sb_16.step hb18
      have sc_18 := sc_16.step hb18
      have sl_18 := sl17.step hb18
      clear sb_16 sc_16 sl17 hb18
      have sp19 := St.own ho31
      clear ho31
      go_wp2_with fail
      refine (specRea ys _ w18 _ sl_18.now (Nat.le_refl _) hy9).mono ?_
      rintro e w20 ⟨v32, rfl, ho32, hb20⟩
      have sb_20 := sb_18.step hb20
      have sc_20 := sc_18.step hb20
      have sl_20 := sl_18.step hb20
      have sp_20 := sp19.step hb20
      clear sb_18 sc_18 sl_18 sp19 hb20
      have sq21 := St.own ho32
      clear ho32
      go_wp2_with fail
      refine (vInts_same _ v31 v32 w20 _ sp_20.now sq21.now (Nat.le_refl _)).mono ?_
      rintro e w22 ⟨rfl, hb22⟩
      have sb_22 := sb_20.step hb22
      have sc_22 := sc_20.step hb22
      have sl_22 := sl_20.step hb22
      have sp_22 := sp_20.step hb22
      have sq_22 := sq21.step hb22
      clear sb_20 sc_20 sl_20 sp_20 sq21 hb22
      clear sq_22 sp_22
      go_wp2_with fail
      refine (implTor ys _ w22 _ sl_22.now (Nat.le_refl _) hy9).mono ?_
      rintro e w23 ⟨rfl, hb23⟩
      have sb_23 := sb_22.step hb23
      have sc_23 := sc_22.step hb23
      have sl_23 := sl_22.step hb23
      clear sb_22 sc_22 sl_22 hb23
      go_wp2_with fail
      refine (specTor ys _ w23 _ sl_23.now (Nat.le_refl _) hy9).mono ?_
      rintro e w24 ⟨rfl, hb24⟩
      have sb_24 := sb_23.step hb24
      have sc_24 := sc_23.step hb24
      have sl_24 := sl_23.step hb24
      clear sb_23 sc_23 sl_23 hb24
      have hle := resTor_le (l := ys)
      generalize resTor ys = t at *
      cases hk4 : okB ys with
      | false =>
        clear hle
        go_wp2
        go_ret
        exact ⟨ret_bool (by simp; try omega), sb_24.now⟩
      | true =>
        have hle2 : t ≤ (ys.length : Int) := hle hk4
        clear hle
        go_wp2
        go_ret
        exact ⟨ret_bool (by simp; try omega), sb_24.now⟩
    | true =>
      go_wp2_with fail
      refine (vInts_same _ v21 v22 w13 _ sp_13.now sq14.now (Nat.le_refl _)).mono ?_
      rintro e w15 ⟨rfl, hb15⟩
      have sb_15 := sb_13.step hb15
      have sc_15 := sc_13.step hb15
      have sl_15 := sl_13.step hb15
      have sp_15 := sp_13.step hb15
      have sq_15 := sq14.step hb15
      clear sb_13 sc_13 sl_13 sp_13 sq14 hb15
      clear sq_15
      obtain ⟨al, cl, hvl, -⟩ := id sl_15.now
      subst hvl
      go_wp2_with fail
      refine (implPckB ls v21 w15 _ sp_15.now (Nat.le_refl _) hk3).mono ?_
      rintro e w16 ⟨v23, rfl, ho23, hb16⟩
      have sb_16 := sb_15.step hb16
      have sc_16 := sc_15.step hb16
      have sl_16 := sl_15.step hb16
      have sp_16 := sp_15.step hb16
      clear sb_15 sc_15 sl_15 sp_15 hb16
      have sq17 := St.own ho23
      clear ho23
      go_wp2_with fail
      refine (implTorB ls _ w16 _ sl_16.now (Nat.le_refl _) hl9 hk3).mono ?_
      rintro e w18 ⟨rfl, hb18⟩
      have sb_18 := sb_16.step hb18
      have sc_18 := sc_16.step hb18
      have sl_18 := sl_16.step hb18
      have sp_18 := sp_16.step hb18
      have sq_18 := sq17.step hb18
      clear sb_16 sc_16 sl_16 sp_16 sq17 hb18
      go_wp2_with fail
      refine (vInts_same ls v23 _ w18 _ sq_18.now sl_18.now (Nat.le_refl _)).mono ?_
      rintro e w19 ⟨rfl, hb19⟩
      have sb_19 := sb_18.step hb19
      have sc_19 := sc_18.step hb19
      have sl_19 := sl_18.step hb19
      have sp_19 := sp_18.step hb19
      have sq_19 := sq_18.step hb19
      clear sb_18 sc_18 sl_18 sp_18 sq_18 hb19
      clear sq_19
      clear sp_19 sl_19
      clear hk3
      go_wp2_with fail
      refine (drawRea w19 _ _ sc_19.now).mono ?_
      rintro e w20 ⟨v30, ys, rfl, hd30, ho30, hb20⟩
      have sb_20 := sb_19.step hb20
      have sc_20 := sc_19.step hb20
      clear sb_19 sc_19 hb20
      have sl21 := St.own ho30
      clear ho30
      have hy9 : ys.length ≤ 1048576 := by omega
      obtain ⟨ay, cy, hvy, -⟩ := id sl21.now
      subst hvy
      go_wp2_with fail
      refine (implRea ys _ w20 _ sl21.now (Nat.le_refl _) hy9).mono ?_
      rintro e w22 ⟨v31, rfl, ho31, hb22⟩
      have sb_22 := sb_20.step hb22
      have sc_22 := sc_20.step hb22
      have sl_22 := sl21.step hb22
      clear sb_20 sc_20 sl21 hb22
      have sp23 := St.own ho31
      clear ho31
      go_wp2_with fail
      refine (specRea ys _ w22 _ sl_22.now (Nat.le_refl _) hy9).mono ?_
      rintro e w24 ⟨v32, rfl, ho32, hb24⟩
      have sb_24 := sb_22.step hb24
      have sc_24 := sc_22.step hb24
      have sl_24 := sl_22.step hb24
      have sp_24 := sp23.step hb24
      clear sb_22 sc_22 sl_22 sp23 hb24
      have sq25 := St.own ho32
      clear ho32
      go_wp2_with fail
      refine (vInts_same _ v31 v32 w24 _ sp_24.now sq25.now (Nat.le_refl _)).mono ?_
      rintro e w26 ⟨rfl, hb26⟩
      have sb_26 := sb_24.step hb26
      have sc_26 := sc_24.step hb26
      have sl_26 := sl_24.step hb26
      have sp_26 := sp_24.step hb26
      have sq_26 := sq25.step hb26
      clear sb_24 sc_24 sl_24 sp_24 sq25 hb26
      clear sq_26 sp_26
      go_wp2_with fail
      refine (implTor ys _ w26 _ sl_26.now (Nat.le_refl _) hy9).mono ?_
      rintro e w27 ⟨rfl, hb27⟩
      have sb_27 := sb_26.step hb27
      have sc_27 := sc_26.step hb27
      have sl_27 := sl_26.step hb27
      clear sb_26 sc_26 sl_26 hb27
      go_wp2_with fail
      refine (specTor ys _ w27 _ sl_27.now (Nat.le_refl _) hy9).mono ?_
      rintro e w28 ⟨rfl, hb28⟩
      have sb_28 := sb_27.step hb28
      have sc_28 := sc_27.step hb28
      have sl_28 := sl_27.step hb28
      clear sb_27 sc_27 sl_27 hb28
      have hle := resTor_le (l := ys)
      generalize resTor ys = t at *
      cases hk4 : okB ys with
      | false =>
        clear hle
        go_wp2
        go_ret
        exact ⟨ret_bool (by simp; try omega), sb_28.now⟩
      | true =>
        have hle2 : t ≤ (ys.length : Int) := hle hk4
        clear hle
        go_wp2
        go_ret
        exact ⟨ret_bool (by simp; try omega), sb_28.now⟩
  | true =>
    go_wp2_with fail
    refine (implPckR xs v1 w2 _ sx3.now (Nat.le_refl _) hx9 hk).mono ?_
    rintro e w4 ⟨g2, c2, rfl, hr2, hb4⟩
    have sb_4 := sb_2.step hb4
    have sc_4 := sc_2.step hb4
    have sx_4 := sx3.step hb4
    clear sb_2 sc_2 sx3 hb4
    have si5 := St.own (Own.of_row hr2)
    have hcap2 : (pk xs).length ≤ c2 := by obtain ⟨_, _, hv9, h9, _⟩ := si5.now; cases hv9; exact h9
    clear hr2
    go_wp2_with fail
    refine (specPckT xs v1 w4 _ sx_4.now (Nat.le_refl _) hx9 hk).mono ?_
    rintro e w6 ⟨v3, rfl, ho3, hb6⟩
    have sb_6 := sb_4.step hb6
    have sc_6 := sc_4.step hb6
    have sx_6 := sx_4.step hb6
    have si_6 := si5.step hb6
    clear sb_4 sc_4 sx_4 si5 hb6
    have so7 := St.own ho3
    clear ho3
    go_wp2_with fail
    refine (vInts_same _ _ v3 w6 _ si_6.now so7.now (Nat.le_refl _)).mono ?_
    rintro e w8 ⟨rfl, hb8⟩
    have sb_8 := sb_6.step hb8
    have sc_8 := sc_6.step hb8
    have sx_8 := sx_6.step hb8
    have si_8 := si_6.step hb8
    have so_8 := so7.step hb8
    clear sb_6 sc_6 sx_6 si_6 so7 hb8
    clear so_8
    go_wp2_with fail
    refine (implUnpT xs _ w8 _ si_8.now (Nat.le_refl _) hk).mono ?_
    rintro e w9 ⟨v4, rfl, ho4, hb9⟩
    have sb_9 := sb_8.step hb9
    have sc_9 := sc_8.step hb9
    have sx_9 := sx_8.step hb9
    have si_9 := si_8.step hb9
    clear sb_8 sc_8 sx_8 si_8 hb9
    have sk10 := St.own ho4
    clear ho4
    go_wp2_with fail
    refine (implWcT xs v1 w9 _ sx_9.now (Nat.le_refl _) hx9 hk).mono ?_
    rintro e w11 ⟨bc, oc, cc9, rfl, ⟨k0, k1, k2⟩, hlw, hb11⟩
    have sb_11 := sb_9.step hb11
    have sc_11 := sc_9.step hb11
    have sx_11 := sx_9.step hb11
    have si_11 := si_9.step hb11
    have sk_11 := sk10.step hb11
    clear sb_9 sc_9 sx_9 si_9 sk10 hb11
    have sn12 := St.lst hlw
    clear hlw
    obtain ⟨j, hj, hje⟩ := part_eq hk ((pk xs).length / 2)
    obtain ⟨q1, q2, q3, q4, q5⟩ := cntW_sum (dif xs)
    have hpb := (pk_bytes hk).2
    rw [show pkD (dif xs) = pk xs from rfl] at q2
    have h24 := (okL_yes hk).2
    rw [dif_len] at q1
    have cc := fun d os => Calls.regrown_of (w := w11) (d := d) (os := os) (vInts_same xs v4 v1 _ _ ((sk_11.step (below_regrown w11 d os)).now) ((sx_11.step (below_regrown w11 d os)).now) (Nat.le_refl _))
    have cs := fun d os => Calls.regrown_of (w := w11) (d := d) (os := os) (vSum_wc xs _ _ _ ((sn12.step (below_regrown w11 d os)).now) hk)
    have m0 := cell_regrown k0
    have m1 := cell_regrown k1
    have m2 := cell_regrown k2
    have HR := Lib.hid (fun v w' (h : Lst (Value.int .i64) w' w'.heap.size v ((pk xs).take ((pk xs).length / 2))) => implReaT xs _ j v w' _ h (Nat.le_refl _) hk hje)
    generalize cntW (dif xs) 0 = z0 at *
    generalize cntW (dif xs) 1 = z1 at *
    generalize cntW (dif xs) 2 = z2 at *
    clear hje
    obtain ⟨n9, hn9⟩ : ∃ n, (pk xs).length = n := ⟨_, rfl⟩
    have HN9 := Lib.hid hn9
    rw [hn9] at q2 hpb hcap2 HR ⊢
    obtain ⟨h9, hh9⟩ : ∃ m, n9 / 2 = m := ⟨_, rfl⟩
    rw [hh9] at HR
    have hm1 : (n9 : Int) / 2 = (h9 : Int) := by omega
    have hm2 : (h9 : Int) ≤ (c2 : Int) := by omega
    have hm3 : (0 : Int) ≤ (h9 : Int) := by omega
    have hm4 : h9 ≤ n9 := by omega
    clear hn9 hh9
    have s1 : IntKind.i64.wrap (2 * z1) = 2 * z1 := IntWalk.i64_in _ (by omega)
    have s2 : IntKind.i64.wrap (z0 + 2 * z1) = z0 + 2 * z1 := IntWalk.i64_in _ (by omega)
    have s3 : IntKind.i64.wrap (3 * z2) = 3 * z2 := IntWalk.i64_in _ (by omega)
    have s4 : IntKind.i64.wrap (z0 + 2 * z1 + 3 * z2) = (n9 : Int) := by rw [q2]; exact IntWalk.i64_in _ (by omega)
    have hform := sx_11.now.form
    have hvr := hr1.2
    obtain ⟨ax, cx, rfl⟩ := hform
    go_wp2
    refine wp_region_quiet_below (by kernel_rfl) (by kernel_rfl) ?_
    repeat (go_big_quiet_step (first | with_reducible exact cc _ _ | with_reducible exact cs _ _))
    refine wpQuiet_nil ?_
    intro _ hw'
    obtain ⟨⟨dq, osq⟩, hw''⟩ := hw'
    subst hw''
    have hbq := below_regrown (w11) dq osq
    generalize grow (redrawn (w11) dq) osq = wq at *
    have sb_q := sb_11.step hbq
    have sc_q := sc_11.step hbq
    have sx_q := sx_11.step hbq
    have si_q := si_11.step hbq
    have sk_q := sk_11.step hbq
    have sn_q := sn12.step hbq
    clear cc cs m0 m1 m2 k0 k1 k2 hbq
    clear sk_q sn_q
    go_wp2_with fail
    refine (HR.out _ wq (by have := lst_take si_q.now h9 (by rw [HN9.out]; exact hm4); exact this)).mono ?_
    rintro e w14 ⟨v12, rfl, ho12, hb14⟩
    have sb_14 := sb_q.step hb14
    have sc_14 := sc_q.step hb14
    have sx_14 := sx_q.step hb14
    have si_14 := si_q.step hb14
    clear sb_q sc_q sx_q si_q hb14
    clear si_14
    have sp15 := St.own ho12
    have hjl : (xs.take j).length = j := by rw [List.length_take]; omega
    obtain ⟨a12, c12, rfl⟩ := ho12.form
    rw [hjl] at sp15 ⊢
    clear ho12 hjl HR
    have hj1 : (j : Int) ≤ (xs.length : Int) := by omega
    have hj0 : (0 : Int) ≤ (j : Int) := by omega
    rcases hvr with ⟨hv0, hx0⟩ | ⟨g1, cap1, cur, hv0, _, _, hnc, _⟩
    · simp only [Value.slice.injEq] at hv0
      obtain ⟨rfl, hx1, rfl⟩ := hv0
      have hj9 : j = 0 := by omega
      subst hj9
      have hxl : xs.length = 0 := hx0
      rw [hxl] at *
      go_wp2_with fail
      refine (vInts_same (xs.take 0) _ _ w14 _ sp15.now (by have := sx_14.now; rw [show xs.take 0 = [] from rfl]; exact ⟨none, 0, rfl, by simp, by simp [maxLen], fun _ => rfl, fun i x hi => by simp at hi⟩) (Nat.le_refl _)).mono ?_
      rintro e w16 ⟨rfl, hb16⟩
      have sb_16 := sb_14.step hb16
      have sc_16 := sc_14.step hb16
      have sx_16 := sx_14.step hb16
      have sp_16 := sp15.step hb16
      clear sb_14 sc_14 sx_14 sp15 hb16
      clear sp_16 sx_16
      go_wp2_with fail
      refine (drawUnp w16 _ _ sc_16.now).mono ?_
      rintro e w17 ⟨v20, ls, rfl, hd20, ho20, hb17⟩
      have sb_17 := sb_16.step hb17
      have sc_17 := sc_16.step hb17
      clear sb_16 sc_16 hb17
      have sl18 := St.own ho20
      clear ho20
      have hl9 : ls.length ≤ 1048576 := by omega
      go_wp2_with fail
      refine (implUnp ls v20 w17 _ sl18.now (Nat.le_refl _) hl9).mono ?_
      rintro e w19 ⟨v21, rfl, ho21, hb19⟩
      have sb_19 := sb_17.step hb19
      have sc_19 := sc_17.step hb19
      have sl_19 := sl18.step hb19
      clear sb_17 sc_17 sl18 hb19
      have sp20 := St.own ho21
      clear ho21
      go_wp2_with fail
      refine (specUnp ls v20 w19 _ sl_19.now (Nat.le_refl _) hl9).mono ?_
      rintro e w21 ⟨v22, rfl, ho22, hb21⟩
      have sb_21 := sb_19.step hb21
      have sc_21 := sc_19.step hb21
      have sl_21 := sl_19.step hb21
      have sp_21 := sp20.step hb21
      clear sb_19 sc_19 sl_19 sp20 hb21
      have sq22 := St.own ho22
      clear ho22
      cases hk3 : okUnp ls with
      | false =>
        go_wp2_with fail
        refine (vInts_same _ v21 v22 w21 _ sp_21.now sq22.now (Nat.le_refl _)).mono ?_
        rintro e w23 ⟨rfl, hb23⟩
        have sb_23 := sb_21.step hb23
        have sc_23 := sc_21.step hb23
        have sl_23 := sl_21.step hb23
        have sp_23 := sp_21.step hb23
        have sq_23 := sq22.step hb23
        clear sb_21 sc_21 sl_21 sp_21 sq22 hb23
        clear sq_23
        clear sp_23 sl_23
        clear hk3
        go_wp2_with fail
        refine (drawRea w23 _ _ sc_23.now).mono ?_
        rintro e w24 ⟨v30, ys, rfl, hd30, ho30, hb24⟩
        have sb_24 := sb_23.step hb24
        have sc_24 := sc_23.step hb24
        clear sb_23 sc_23 hb24
        have sl25 := St.own ho30
        clear ho30
        have hy9 : ys.length ≤ 1048576 := by omega
        obtain ⟨ay, cy, hvy, -⟩ := id sl25.now
        subst hvy
        go_wp2_with fail
        refine (implRea ys _ w24 _ sl25.now (Nat.le_refl _) hy9).mono ?_
        rintro e w26 ⟨v31, rfl, ho31, hb26⟩
        have sb_26 := sb_24.step hb26
        have sc_26 := sc_24.step hb26
        have sl_26 := sl25.step hb26
        clear sb_24 sc_24 sl25 hb26
        have sp27 := St.own ho31
        clear ho31
        go_wp2_with fail
        refine (specRea ys _ w26 _ sl_26.now (Nat.le_refl _) hy9).mono ?_
        rintro e w28 ⟨v32, rfl, ho32, hb28⟩
        have sb_28 := sb_26.step hb28
        have sc_28 := sc_26.step hb28
        have sl_28 := sl_26.step hb28
        have sp_28 := sp27.step hb28
        clear sb_26 sc_26 sl_26 sp27 hb28
        have sq29 := St.own ho32
        clear ho32
        go_wp2_with fail
        refine (vInts_same _ v31 v32 w28 _ sp_28.now sq29.now (Nat.le_refl _)).mono ?_
        rintro e w30 ⟨rfl, hb30⟩
        have sb_30 := sb_28.step hb30
        have sc_30 := sc_28.step hb30
        have sl_30 := sl_28.step hb30
        have sp_30 := sp_28.step hb30
        have sq_30 := sq29.step hb30
        clear sb_28 sc_28 sl_28 sp_28 sq29 hb30
        clear sq_30 sp_30
        go_wp2_with fail
        refine (implTor ys _ w30 _ sl_30.now (Nat.le_refl _) hy9).mono ?_
        rintro e w31 ⟨rfl, hb31⟩
        have sb_31 := sb_30.step hb31
        have sc_31 := sc_30.step hb31
        have sl_31 := sl_30.step hb31
        clear sb_30 sc_30 sl_30 hb31
        go_wp2_with fail
        refine (specTor ys _ w31 _ sl_31.now (Nat.le_refl _) hy9).mono ?_
        rintro e w32 ⟨rfl, hb32⟩
        have sb_32 := sb_31.step hb32
        have sc_32 := sc_31.step hb32
        have sl_32 := sl_31.step hb32
        clear sb_31 sc_31 sl_31 hb32
        have hle := resTor_le (l := ys)
        generalize resTor ys = t at *
        cases hk4 : okB ys with
        | false =>
          clear hle
          go_wp2
          go_ret
          exact ⟨ret_bool (by simp; try omega), sb_32.now⟩
        | true =>
          have hle2 : t ≤ (ys.length : Int) := hle hk4
          clear hle
          go_wp2
          go_ret
          exact ⟨ret_bool (by simp; try omega), sb_32.now⟩
      | true =>
        go_wp2_with fail
        refine (vInts_same _ v21 v22 w21 _ sp_21.now sq22.now (Nat.le_refl _)).mono ?_
        rintro e w23 ⟨rfl, hb23⟩
        have sb_23 := sb_21.step hb23
        have sc_23 := sc_21.step hb23
        have sl_23 := sl_21.step hb23
        have sp_23 := sp_21.step hb23
        have sq_23 := sq22.step hb23
        clear sb_21 sc_21 sl_21 sp_21 sq22 hb23
        clear sq_23
        obtain ⟨al, cl, hvl, -⟩ := id sl_23.now
        subst hvl
        go_wp2_with fail
        refine (implPckB ls v21 w23 _ sp_23.now (Nat.le_refl _) hk3).mono ?_
        rintro e w24 ⟨v23, rfl, ho23, hb24⟩
        have sb_24 := sb_23.step hb24
        have sc_24 := sc_23.step hb24
        have sl_24 := sl_23.step hb24
        have sp_24 := sp_23.step hb24
        clear sb_23 sc_23 sl_23 sp_23 hb24
        have sq25 := St.own ho23
        clear ho23
        go_wp2_with fail
        refine (implTorB ls _ w24 _ sl_24.now (Nat.le_refl _) hl9 hk3).mono ?_
        rintro e w26 ⟨rfl, hb26⟩
        have sb_26 := sb_24.step hb26
        have sc_26 := sc_24.step hb26
        have sl_26 := sl_24.step hb26
        have sp_26 := sp_24.step hb26
        have sq_26 := sq25.step hb26
        clear sb_24 sc_24 sl_24 sp_24 sq25 hb26
        go_wp2_with fail
        refine (vInts_same ls v23 _ w26 _ sq_26.now sl_26.now (Nat.le_refl _)).mono ?_
        rintro e w27 ⟨rfl, hb27⟩
        have sb_27 := sb_26.step hb27
        have sc_27 := sc_26.step hb27
        have sl_27 := sl_26.step hb27
        have sp_27 := sp_26.step hb27
        have sq_27 := sq_26.step hb27
        clear sb_26 sc_26 sl_26 sp_26 sq_26 hb27
        clear sq_27
        clear sp_27 sl_27
        clear hk3
        go_wp2_with fail
        refine (drawRea w27 _ _ sc_27.now).mono ?_
        rintro e w28 ⟨v30, ys, rfl, hd30, ho30, hb28⟩
        have sb_28 := sb_27.step hb28
        have sc_28 := sc_27.step hb28
        clear sb_27 sc_27 hb28
        have sl29 := St.own ho30
        clear ho30
        have hy9 : ys.length ≤ 1048576 := by omega
        obtain ⟨ay, cy, hvy, -⟩ := id sl29.now
        subst hvy
        go_wp2_with fail
        refine (implRea ys _ w28 _ sl29.now (Nat.le_refl _) hy9).mono ?_
        rintro e w30 ⟨v31, rfl, ho31, hb30⟩
        have sb_30 := sb_28.step hb30
        have sc_30 := sc_28.step hb30
        have sl_30 := sl29.step hb30
        clear sb_28 sc_28 sl29 hb30
        have sp31 := St.own ho31
        clear ho31
        go_wp2_with fail
        refine (specRea ys _ w30 _ sl_30.now (Nat.le_refl _) hy9).mono ?_
        rintro e w32 ⟨v32, rfl, ho32, hb32⟩
        have sb_32 := sb_30.step hb32
        have sc_32 := sc_30.step hb32
        have sl_32 := sl_30.step hb32
        have sp_32 := sp31.step hb32
        clear sb_30 sc_30 sl_30 sp31 hb32
        have sq33 := St.own ho32
        clear ho32
        go_wp2_with fail
        refine (vInts_same _ v31 v32 w32 _ sp_32.now sq33.now (Nat.le_refl _)).mono ?_
        rintro e w34 ⟨rfl, hb34⟩
        have sb_34 := sb_32.step hb34
        have sc_34 := sc_32.step hb34
        have sl_34 := sl_32.step hb34
        have sp_34 := sp_32.step hb34
        have sq_34 := sq33.step hb34
        clear sb_32 sc_32 sl_32 sp_32 sq33 hb34
        clear sq_34 sp_34
        go_wp2_with fail
        refine (implTor ys _ w34 _ sl_34.now (Nat.le_refl _) hy9).mono ?_
        rintro e w35 ⟨rfl, hb35⟩
        have sb_35 := sb_34.step hb35
        have sc_35 := sc_34.step hb35
        have sl_35 := sl_34.step hb35
        clear sb_34 sc_34 sl_34 hb35
        go_wp2_with fail
        refine (specTor ys _ w35 _ sl_35.now (Nat.le_refl _) hy9).mono ?_
        rintro e w36 ⟨rfl, hb36⟩
        have sb_36 := sb_35.step hb36
        have sc_36 := sc_35.step hb36
        have sl_36 := sl_35.step hb36
        clear sb_35 sc_35 sl_35 hb36
        have hle := resTor_le (l := ys)
        generalize resTor ys = t at *
        cases hk4 : okB ys with
        | false =>
          clear hle
          go_wp2
          go_ret
          exact ⟨ret_bool (by simp; try omega), sb_36.now⟩
        | true =>
          have hle2 : t ≤ (ys.length : Int) := hle hk4
          clear hle
          go_wp2
          go_ret
          exact ⟨ret_bool (by simp; try omega), sb_36.now⟩
    · simp only [Value.slice.injEq] at hv0
      obtain ⟨rfl, -, rfl⟩ := hv0
      have hj2 : (j : Int) ≤ (cx : Int) := by omega
      go_wp2_with fail
      refine (vInts_same (xs.take j) _ _ w14 _ sp15.now (lst_take sx_14.now j hj) (Nat.le_refl _)).mono ?_
      rintro e w16 ⟨rfl, hb16⟩
      have sb_16 := sb_14.step hb16
      have sc_16 := sc_14.step hb16
      have sx_16 := sx_14.step hb16
      have sp_16 := sp15.step hb16
      clear sb_14 sc_14 sx_14 sp15 hb16
      clear sp_16 sx_16
      go_wp2_with fail
      refine (drawUnp w16 _ _ sc_16.now).mono ?_
      rintro e w17 ⟨v20, ls, rfl, hd20, ho20, hb17⟩
      have sb_17 := sb_16.step hb17
      have sc_17 := sc_16.step hb17
      clear sb_16 sc_16 hb17
      have sl18 := St.own ho20
      clear ho20
      have hl9 : ls.length ≤ 1048576 := by omega
      go_wp2_with fail
      refine (implUnp ls v20 w17 _ sl18.now (Nat.le_refl _) hl9).mono ?_
      rintro e w19 ⟨v21, rfl, ho21, hb19⟩
      have sb_19 := sb_17.step hb19
      have sc_19 := sc_17.step hb19
      have sl_19 := sl18.step hb19
      clear sb_17 sc_17 sl18 hb19
      have sp20 := St.own ho21
      clear ho21
      go_wp2_with fail
      refine (specUnp ls v20 w19 _ sl_19.now (Nat.le_refl _) hl9).mono ?_
      rintro e w21 ⟨v22, rfl, ho22, hb21⟩
      have sb_21 := sb_19.step hb21
      have sc_21 := sc_19.step hb21
      have sl_21 := sl_19.step hb21
      have sp_21 := sp20.step hb21
      clear sb_19 sc_19 sl_19 sp20 hb21
      have sq22 := St.own ho22
      clear ho22
      cases hk3 : okUnp ls with
      | false =>
        go_wp2_with fail
        refine (vInts_same _ v21 v22 w21 _ sp_21.now sq22.now (Nat.le_refl _)).mono ?_
        rintro e w23 ⟨rfl, hb23⟩
        have sb_23 := sb_21.step hb23
        have sc_23 := sc_21.step hb23
        have sl_23 := sl_21.step hb23
        have sp_23 := sp_21.step hb23
        have sq_23 := sq22.step hb23
        clear sb_21 sc_21 sl_21 sp_21 sq22 hb23
        clear sq_23
        clear sp_23 sl_23
        clear hk3
        go_wp2_with fail
        refine (drawRea w23 _ _ sc_23.now).mono ?_
        rintro e w24 ⟨v30, ys, rfl, hd30, ho30, hb24⟩
        have sb_24 := sb_23.step hb24
        have sc_24 := sc_23.step hb24
        clear sb_23 sc_23 hb24
        have sl25 := St.own ho30
        clear ho30
        have hy9 : ys.length ≤ 1048576 := by omega
        obtain ⟨ay, cy, hvy, -⟩ := id sl25.now
        subst hvy
        go_wp2_with fail
        refine (implRea ys _ w24 _ sl25.now (Nat.le_refl _) hy9).mono ?_
        rintro e w26 ⟨v31, rfl, ho31, hb26⟩
        have sb_26 := sb_24.step hb26
        have sc_26 := sc_24.step hb26
        have sl_26 := sl25.step hb26
        clear sb_24 sc_24 sl25 hb26
        have sp27 := St.own ho31
        clear ho31
        go_wp2_with fail
        refine (specRea ys _ w26 _ sl_26.now (Nat.le_refl _) hy9).mono ?_
        rintro e w28 ⟨v32, rfl, ho32, hb28⟩
        have sb_28 := sb_26.step hb28
        have sc_28 := sc_26.step hb28
        have sl_28 := sl_26.step hb28
        have sp_28 := sp27.step hb28
        clear sb_26 sc_26 sl_26 sp27 hb28
        have sq29 := St.own ho32
        clear ho32
        go_wp2_with fail
        refine (vInts_same _ v31 v32 w28 _ sp_28.now sq29.now (Nat.le_refl _)).mono ?_
        rintro e w30 ⟨rfl, hb30⟩
        have sb_30 := sb_28.step hb30
        have sc_30 := sc_28.step hb30
        have sl_30 := sl_28.step hb30
        have sp_30 := sp_28.step hb30
        have sq_30 := sq29.step hb30
        clear sb_28 sc_28 sl_28 sp_28 sq29 hb30
        clear sq_30 sp_30
        go_wp2_with fail
        refine (implTor ys _ w30 _ sl_30.now (Nat.le_refl _) hy9).mono ?_
        rintro e w31 ⟨rfl, hb31⟩
        have sb_31 := sb_30.step hb31
        have sc_31 := sc_30.step hb31
        have sl_31 := sl_30.step hb31
        clear sb_30 sc_30 sl_30 hb31
        go_wp2_with fail
        refine (specTor ys _ w31 _ sl_31.now (Nat.le_refl _) hy9).mono ?_
        rintro e w32 ⟨rfl, hb32⟩
        have sb_32 := sb_31.step hb32
        have sc_32 := sc_31.step hb32
        have sl_32 := sl_31.step hb32
        clear sb_31 sc_31 sl_31 hb32
        have hle := resTor_le (l := ys)
        generalize resTor ys = t at *
        cases hk4 : okB ys with
        | false =>
          clear hle
          go_wp2
          go_ret
          exact ⟨ret_bool (by simp; try omega), sb_32.now⟩
        | true =>
          have hle2 : t ≤ (ys.length : Int) := hle hk4
          clear hle
          go_wp2
          go_ret
          exact ⟨ret_bool (by simp; try omega), sb_32.now⟩
      | true =>
        go_wp2_with fail
        refine (vInts_same _ v21 v22 w21 _ sp_21.now sq22.now (Nat.le_refl _)).mono ?_
        rintro e w23 ⟨rfl, hb23⟩
        have sb_23 := sb_21.step hb23
        have sc_23 := sc_21.step hb23
        have sl_23 := sl_21.step hb23
        have sp_23 := sp_21.step hb23
        have sq_23 := sq22.step hb23
        clear sb_21 sc_21 sl_21 sp_21 sq22 hb23
        clear sq_23
        obtain ⟨al, cl, hvl, -⟩ := id sl_23.now
        subst hvl
        go_wp2_with fail
        refine (implPckB ls v21 w23 _ sp_23.now (Nat.le_refl _) hk3).mono ?_
        rintro e w24 ⟨v23, rfl, ho23, hb24⟩
        have sb_24 := sb_23.step hb24
        have sc_24 := sc_23.step hb24
        have sl_24 := sl_23.step hb24
        have sp_24 := sp_23.step hb24
        clear sb_23 sc_23 sl_23 sp_23 hb24
        have sq25 := St.own ho23
        clear ho23
        go_wp2_with fail
        refine (implTorB ls _ w24 _ sl_24.now (Nat.le_refl _) hl9 hk3).mono ?_
        rintro e w26 ⟨rfl, hb26⟩
        have sb_26 := sb_24.step hb26
        have sc_26 := sc_24.step hb26
        have sl_26 := sl_24.step hb26
        have sp_26 := sp_24.step hb26
        have sq_26 := sq25.step hb26
        clear sb_24 sc_24 sl_24 sp_24 sq25 hb26
        go_wp2_with fail
        refine (vInts_same ls v23 _ w26 _ sq_26.now sl_26.now (Nat.le_refl _)).mono ?_
        rintro e w27 ⟨rfl, hb27⟩
        have sb_27 := sb_26.step hb27
        have sc_27 := sc_26.step hb27
        have sl_27 := sl_26.step hb27
        have sp_27 := sp_26.step hb27
        have sq_27 := sq_26.step hb27
        clear sb_26 sc_26 sl_26 sp_26 sq_26 hb27
        clear sq_27
        clear sp_27 sl_27
        clear hk3
        go_wp2_with fail
        refine (drawRea w27 _ _ sc_27.now).mono ?_
        rintro e w28 ⟨v30, ys, rfl, hd30, ho30, hb28⟩
        have sb_28 := sb_27.step hb28
        have sc_28 := sc_27.step hb28
        clear sb_27 sc_27 hb28
        have sl29 := St.own ho30
        clear ho30
        have hy9 : ys.length ≤ 1048576 := by omega
        obtain ⟨ay, cy, hvy, -⟩ := id sl29.now
        subst hvy
        go_wp2_with fail
        refine (implRea ys _ w28 _ sl29.now (Nat.le_refl _) hy9).mono ?_
        rintro e w30 ⟨v31, rfl, ho31, hb30⟩
        have sb_30 := sb_28.step hb30
        have sc_30 := sc_28.step hb30
        have sl_30 := sl29.step hb30
        clear sb_28 sc_28 sl29 hb30
        have sp31 := St.own ho31
        clear ho31
        go_wp2_with fail
        refine (specRea ys _ w30 _ sl_30.now (Nat.le_refl _) hy9).mono ?_
        rintro e w32 ⟨v32, rfl, ho32, hb32⟩
        have sb_32 := sb_30.step hb32
        have sc_32 := sc_30.step hb32
        have sl_32 := sl_30.step hb32
        have sp_32 := sp31.step hb32
        clear sb_30 sc_30 sl_30 sp31 hb32
        have sq33 := St.own ho32
        clear ho32
        go_wp2_with fail
        refine (vInts_same _ v31 v32 w32 _ sp_32.now sq33.now (Nat.le_refl _)).mono ?_
        rintro e w34 ⟨rfl, hb34⟩
        have sb_34 := sb_32.step hb34
        have sc_34 := sc_32.step hb34
        have sl_34 := sl_32.step hb34
        have sp_34 := sp_32.step hb34
        have sq_34 := sq33.step hb34
        clear sb_32 sc_32 sl_32 sp_32 sq33 hb34
        clear sq_34 sp_34
        go_wp2_with fail
        refine (implTor ys _ w34 _ sl_34.now (Nat.le_refl _) hy9).mono ?_
        rintro e w35 ⟨rfl, hb35⟩
        have sb_35 := sb_34.step hb35
        have sc_35 := sc_34.step hb35
        have sl_35 := sl_34.step hb35
        clear sb_34 sc_34 sl_34 hb35
        go_wp2_with fail
        refine (specTor ys _ w35 _ sl_35.now (Nat.le_refl _) hy9).mono ?_
        rintro e w36 ⟨rfl, hb36⟩
        have sb_36 := sb_35.step hb36
        have sc_36 := sc_35.step hb36
        have sl_36 := sl_35.step hb36
        clear sb_35 sc_35 sl_35 hb36
        have hle := resTor_le (l := ys)
        generalize resTor ys = t at *
        cases hk4 : okB ys with
        | false =>
          clear hle
          go_wp2
          go_ret
          exact ⟨ret_bool (by simp; try omega), sb_36.now⟩
        | true =>
          have hle2 : t ≤ (ys.length : Int) := hle hk4
          clear hle
          go_wp2
          go_ret
          exact ⟨ret_bool (by simp; try omega), sb_36.now⟩

set_option maxRecDepth 100000 in
theorem walk_all (v : Value) {H : Type} {enc : TypeId × Value → H} {base : Nat} {d : DataW H} {ps : List MemPlace} {w : World} (hval : Value.okWide Try.prog w .any base 33 v)
    (hd : DataW.Trod enc Try.prog w 0 (fun _ => true) true 33 v d ps) :
    Calls Try.prog 12 #[v] w fun e w' => e = .returned (.bool true) ∧ Below w.heap.size w w' := by
  obtain ⟨ao, n, cap, rfl, hn, hc⟩ := open_code Try.underlying33 Try.underlying5 (by kernel_rfl) hval hd
  by_cases h : n ≤ 65536
  · exact walk_main ao n cap w h hc
  · have hi : (65536 : Int) < n := by omega
    go_enter Try.func12, Try.ntmps12
    go_wp2_with fail
    refine (vBig_yes n cap ao _ hi).mono ?_
    rintro e w0 ⟨rfl, hw⟩
    obtain rfl := hw.symm
    go_wp2
    go_ret
    exact ⟨rfl, Below.refl _ _⟩

set_option maxRecDepth 100000 in
theorem contract (H : Type) (enc : TypeId × Value → H) (W : World) (base : Nat) (args : Array Value) (ds gs : List (DataW H)) (before : List MemPlace)
    (hval : ∀ (j : Nat) t v, Try.f12.params[j]? = some t → args[j]? = some v → Value.okWide Try.prog W .any base t v)
    (hW : DataW.Whole enc Try.prog Try.f12.params.toList Rows.fnPackingSpec.vars false W args.toList ds gs before) :
    Calls Try.prog 12 args W fun e W' => ∃ v, e = .returned v ∧ Rows.fnPackingSpec.post enc Try.prog Try.f12 false true false false W args v W' := by
  have hW' := hW
  obtain ⟨p, q, hA0, hV, rfl, hfz, hnd⟩ := hW
  have hA : DataW.TrodAll enc Try.prog W 0 (fun _ => true) true Try.f12.params.toList args.toList ds p := hA0
  rw [Try.params12] at hA hval
  obtain ⟨v0, vs0, d0, ds0, p0, q0, hargs, rfl, rfl, h0, r0⟩ := trodAll_cons hA
  obtain ⟨rfl, rfl, rfl⟩ := trodAll_nil r0
  obtain rfl : args = #[v0] := by cases args; simp_all
  refine lawPost rfl rfl Try.underlying4 (by kernel_rfl) (by kernel_rfl) hW' (fun hg => by subst hg; exact ⟨rfl, rfl, rfl⟩) ?_
  exact walk_all v0 (hval 0 33 v0 rfl rfl) h0

set_option maxRecDepth 100000 in
theorem lifted (os : Os) (started : os.Started) (H : Type) (enc : TypeId × Value → H) :
    ReturnsInHanded {} Try.checked os 12 .any (Rows.fnPackingSpec.pre6 enc Try.prog Try.f12 Rows.fnPackingRow.domain false) (Rows.fnPackingSpec.post enc Try.prog Try.f12 false true false false) := by
  refine returnsInHanded_of_change (C := Try.checked) (s := Rows.fnPackingSpec) own started (by kernel_rfl) Try.func12
    (ChangeSpec.witness6 (enc := enc) (C := Try.checked) (s := Rows.fnPackingSpec) false ⟨#[], #[.slice none 0 0], []⟩ 8 (by kernel_rfl) (by kernel_rfl) (by kernel_rfl) (by kernel_rfl)) ?_
  intro W base args ds gs before hval hW _ _
  exact contract H enc W base args ds gs before hval hW

set_option maxRecDepth 100000 in
theorem said : Rows.FnPackingSaid :=
  OpenClaim.holds_of_wide 12 Try.f12 rfl rfl rfl rfl rfl rfl rfl ⟨rfl, rfl, rfl, rfl, rfl⟩ rfl rfl rfl rfl rfl (by kernel_rfl) Try.func12 (by kernel_rfl)
    (of_decide_eq_true (by kernel_rfl)) (by unfold Func.isWrapper; first | (rw [if_pos (by decide +kernel)]; kernel_rfl) | (rw [if_neg (by decide +kernel)]; exact ⟨rfl, rfl⟩))
    (fun os started H enc _ => lifted os started H enc)
end Go.Proofs.Ytkgohnlljbamlaa.fnPacking
