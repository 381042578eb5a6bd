/- FnDifferences: for every code the law answers true; no condition. -/
import Derived.Test.YtkgohnlljbamlaaVi
import Derived.Test.YtkgohnlljbamlaaPkD
import Derived.Test.YtkgohnlljbamlaaPkN
import Derived.Test.YtkgohnlljbamlaaPkW
namespace Go.Proofs.Ytkgohnlljbamlaa.fnDifferences
open Go.ChangeShapes Go.WideShapes Go.ChangeAt Go.RowKit Go.ChangeMaps
set_option linter.unusedSimpArgs false
set_option linter.unusedVariables false

theorem own : ownKnob Try.prog.godebug = none := by kernel_rfl

theorem resFo_nonneg (d : Int) : 0 ≤ resFo d := by
  unfold resFo
  have := fold_nonneg d
  split <;> omega
theorem resFo_odd {d : Int} (h : okD d = true) : (resFo d % 2 = 1 ↔ d < 0) ∧ resFo d ≤ 400000 := by
  unfold resFo
  rw [if_pos h]
  exact ⟨fold_odd d, okD_fold h⟩
theorem dif_back {xs : List Int} (h : okL xs = true) : sm (dif xs) = xs := sm_dif (okL_yes h).1 (okL_yes h).2
set_option maxRecDepth 100000 in
set_option maxHeartbeats 4000000 in
theorem walk_main (ao : Option Addr) (n cap : Nat) (w : World) (hn : n ≤ 65536) (hcode : Code w w.heap.size ao n) :
    Calls Try.prog 13 #[.slice ao n cap] w fun e w' => e = .returned (.bool true) ∧ Below w.heap.size w w' := by
  have C0 : CodeArg w w.heap.size (.slice ao n cap) := ⟨Nat.le_refl _, ao, n, cap, rfl, hn, hcode⟩
  clear hcode
  have hni : (n : Int) ≤ 65536 := by omega
  have sb0 := St.chain w
  have sc0 := St.code C0
  clear C0
  go_enter Try.func13, Try.ntmps13
  go_wp2_with fail
  refine (vBig_no n cap ao w hni).mono ?_
  rintro e w1 ⟨rfl, hw1⟩
  obtain rfl := hw1.symm
  go_wp2_with fail
  refine (drawDif w _ _ sc0.now).mono ?_
  rintro e w2 ⟨v1, xs, rfl, hd1, hx1, ho1, hb2⟩
  have sb_2 := sb0.step hb2
  have sc_2 := sc0.step hb2
  clear sb0 sc0 hb2
  have sx3 := St.own ho1
  clear ho1
  go_wp2_with fail
  refine (implDif xs v1 w2 _ sx3.now (Nat.le_refl _) (by omega)).mono ?_
  rintro e w4 ⟨v2, rfl, ho2, hb4⟩
  have sb_4 := sb_2.step hb4
  have sc_4 := sc_2.step hb4
  have sx_4 := sx3.step hb4
  clear sb_2 sc_2 sx3 hb4
  have sl5 := St.own ho2
  clear ho2
  go_wp2_with fail
  refine (specDif xs v1 w4 _ sx_4.now (Nat.le_refl _) (by omega)).mono ?_
  rintro e w6 ⟨v3, rfl, ho3, hb6⟩
  have sb_6 := sb_4.step hb6
  have sc_6 := sc_4.step hb6
  have sx_6 := sx_4.step hb6
  have sl_6 := sl5.step hb6
  clear sb_4 sc_4 sx_4 sl5 hb6
  have sw7 := St.own ho3
  clear ho3
  cases hk : okL xs with
  | false =>
    go_wp2_with fail
    refine (vInts_same _ v2 v3 w6 _ sl_6.now sw7.now (Nat.le_refl _)).mono ?_
    rintro e w8 ⟨rfl, hb8⟩
    have sb_8 := sb_6.step hb8
    have sc_8 := sc_6.step hb8
    have sx_8 := sx_6.step hb8
    have sl_8 := sl_6.step hb8
    have sw_8 := sw7.step hb8
    clear sb_6 sc_6 sx_6 sl_6 sw7 hb8
    clear sw_8
    clear sl_8 sx_8
    go_wp2_with fail
    refine (drawFo w8 _ _ sc_8.now).mono ?_
    rintro e w9 ⟨x, rfl, hx1, hx2, hb9⟩
    have sb_9 := sb_8.step hb9
    have sc_9 := sc_8.step hb9
    clear sb_8 sc_8 hb9
    have hi : I64 x := by unfold I64; omega
    go_wp2_with fail
    refine (implFo x w9 _ (Nat.le_refl _) hi).mono ?_
    rintro e w10 ⟨rfl, hb10⟩
    have sb_10 := sb_9.step hb10
    have sc_10 := sc_9.step hb10
    clear sb_9 sc_9 hb10
    go_wp2_with fail
    refine (specFo x w10 _ (Nat.le_refl _) hi).mono ?_
    rintro e w11 ⟨rfl, hb11⟩
    have sb_11 := sb_10.step hb11
    have sc_11 := sc_10.step hb11
    clear sb_10 sc_10 hb11
    have hf0 := resFo_nonneg x
    cases hk2 : okD x with
    | false =>
      go_wp2_with fail
      refine (implPw x w11 _ (Nat.le_refl _) hi).mono ?_
      rintro e w12 ⟨rfl, hb12⟩
      have sb_12 := sb_11.step hb12
      have sc_12 := sc_11.step hb12
      clear sb_11 sc_11 hb12
      go_wp2_with fail
      refine (specPw x w12 _ (Nat.le_refl _) hi).mono ?_
      rintro e w13 ⟨rfl, hb13⟩
      have sb_13 := sb_12.step hb13
      have sc_13 := sc_12.step hb13
      clear sb_12 sc_12 hb13
      clear hi
      go_wp2_with fail
      refine (drawFro w13 _ _ sc_13.now).mono ?_
      rintro e w14 ⟨v4, ys, rfl, hd4, hx4, ho4, hb14⟩
      have sb_14 := sb_13.step hb14
      have sc_14 := sc_13.step hb14
      clear sb_13 sc_13 hb14
      have sy15 := St.own ho4
      clear ho4
      go_wp2_with fail
      refine (implFro ys v4 w14 _ sy15.now (Nat.le_refl _) (by omega)).mono ?_
      rintro e w16 ⟨v5, rfl, ho5, hb16⟩
      have sb_16 := sb_14.step hb16
      have sc_16 := sc_14.step hb16
      have sy_16 := sy15.step hb16
      clear sb_14 sc_14 sy15 hb16
      have si17 := St.own ho5
      clear ho5
      go_wp2_with fail
      refine (specFro ys v4 w16 _ sy_16.now (Nat.le_refl _) (by omega)).mono ?_
      rintro e w18 ⟨v6, rfl, ho6, hb18⟩
      have sb_18 := sb_16.step hb18
      have sc_18 := sc_16.step hb18
      have sy_18 := sy_16.step hb18
      have si_18 := si17.step hb18
      clear sb_16 sc_16 sy_16 si17 hb18
      have so19 := St.own ho6
      clear ho6
      go_wp2_with fail
      refine (vInts_same _ v5 v6 w18 _ si_18.now so19.now (Nat.le_refl _)).mono ?_
      rintro e w20 ⟨rfl, hb20⟩
      have sb_20 := sb_18.step hb20
      have sc_20 := sc_18.step hb20
      have sy_20 := sy_18.step hb20
      have si_20 := si_18.step hb20
      have so_20 := so19.step hb20
      clear sb_18 sc_18 sy_18 si_18 so19 hb20
      clear si_20 so_20 sy_20
      go_wp2_with fail
      refine (drawWc w20 _ _ sc_20.now).mono ?_
      rintro e w21 ⟨v7, zs, rfl, hd7, hx7, ho7, hb21⟩
      have sb_21 := sb_20.step hb21
      have sc_21 := sc_20.step hb21
      clear sb_20 sc_20 hb21
      have sy22 := St.own ho7
      clear ho7
      go_wp2_with fail
      refine (implWc zs v7 w21 _ sy22.now (Nat.le_refl _) (by omega)).mono ?_
      rintro e w23 ⟨v8, rfl, ho8, hb23⟩
      have sb_23 := sb_21.step hb23
      have sc_23 := sc_21.step hb23
      have sy_23 := sy22.step hb23
      clear sb_21 sc_21 sy22 hb23
      have si24 := St.own ho8
      clear ho8
      go_wp2_with fail
      refine (specWc zs v7 w23 _ sy_23.now (Nat.le_refl _) (by omega)).mono ?_
      rintro e w25 ⟨v9, rfl, ho9, hb25⟩
      have sb_25 := sb_23.step hb25
      have sc_25 := sc_23.step hb25
      have sy_25 := sy_23.step hb25
      have si_25 := si24.step hb25
      clear sb_23 sc_23 sy_23 si24 hb25
      have so26 := St.own ho9
      clear ho9
      go_wp2_with fail
      refine (vInts_same _ v8 v9 w25 _ si_25.now so26.now (Nat.le_refl _)).mono ?_
      rintro e w27 ⟨rfl, hb27⟩
      have sb_27 := sb_25.step hb27
      have sc_27 := sc_25.step hb27
      have sy_27 := sy_25.step hb27
      have si_27 := si_25.step hb27
      have so_27 := so26.step hb27
      clear sb_25 sc_25 sy_25 si_25 so26 hb27
      go_wp2
      go_ret
      exact ⟨rfl, sb_27.now⟩
    | true =>
      obtain ⟨od, hf9⟩ := resFo_odd hk2
      generalize resFo x = f at *
      by_cases hneg : x < 0
      · have o1 : f % 2 = 1 := od.2 hneg
        have o2 : f.tmod 2 = 1 := by rw [Int.tmod_eq_emod_of_nonneg hf0]; exact o1
        have o3 : decide (x < 0) = true := decide_eq_true hneg
        clear od
        go_wp2_with fail
        refine (implPw x w11 _ (Nat.le_refl _) hi).mono ?_
        rintro e w12 ⟨rfl, hb12⟩
        have sb_12 := sb_11.step hb12
        have sc_12 := sc_11.step hb12
        clear sb_11 sc_11 hb12
        go_wp2_with fail
        refine (specPw x w12 _ (Nat.le_refl _) hi).mono ?_
        rintro e w13 ⟨rfl, hb13⟩
        have sb_13 := sb_12.step hb13
        have sc_13 := sc_12.step hb13
        clear sb_12 sc_12 hb13
        clear hi
        go_wp2_with fail
        refine (drawFro w13 _ _ sc_13.now).mono ?_
        rintro e w14 ⟨v4, ys, rfl, hd4, hx4, ho4, hb14⟩
        have sb_14 := sb_13.step hb14
        have sc_14 := sc_13.step hb14
        clear sb_13 sc_13 hb14
        have sy15 := St.own ho4
        clear ho4
        go_wp2_with fail
        refine (implFro ys v4 w14 _ sy15.now (Nat.le_refl _) (by omega)).mono ?_
        rintro e w16 ⟨v5, rfl, ho5, hb16⟩
        have sb_16 := sb_14.step hb16
        have sc_16 := sc_14.step hb16
        have sy_16 := sy15.step hb16
        clear sb_14 sc_14 sy15 hb16
        have si17 := St.own ho5
        clear ho5
        go_wp2_with fail
        refine (specFro ys v4 w16 _ sy_16.now (Nat.le_refl _) (by omega)).mono ?_
        rintro e w18 ⟨v6, rfl, ho6, hb18⟩
        have sb_18 := sb_16.step hb18
        have sc_18 := sc_16.step hb18
        have sy_18 := sy_16.step hb18
        have si_18 := si17.step hb18
        clear sb_16 sc_16 sy_16 si17 hb18
        have so19 := St.own ho6
        clear ho6
        go_wp2_with fail
        refine (vInts_same _ v5 v6 w18 _ si_18.now so19.now (Nat.le_refl _)).mono ?_
        rintro e w20 ⟨rfl, hb20⟩
        have sb_20 := sb_18.step hb20
        have sc_20 := sc_18.step hb20
        have sy_20 := sy_18.step hb20
        have si_20 := si_18.step hb20
        have so_20 := so19.step hb20
        clear sb_18 sc_18 sy_18 si_18 so19 hb20
        clear si_20 so_20 sy_20
        go_wp2_with fail
        refine (drawWc w20 _ _ sc_20.now).mono ?_
        rintro e w21 ⟨v7, zs, rfl, hd7, hx7, ho7, hb21⟩
        have sb_21 := sb_20.step hb21
        have sc_21 := sc_20.step hb21
        clear sb_20 sc_20 hb21
        have sy22 := St.own ho7
        clear ho7
        go_wp2_with fail
        refine (implWc zs v7 w21 _ sy22.now (Nat.le_refl _) (by omega)).mono ?_
        rintro e w23 ⟨v8, rfl, ho8, hb23⟩
        have sb_23 := sb_21.step hb23
        have sc_23 := sc_21.step hb23
        have sy_23 := sy22.step hb23
        clear sb_21 sc_21 sy22 hb23
        have si24 := St.own ho8
        clear ho8
        go_wp2_with fail
        refine (specWc zs v7 w23 _ sy_23.now (Nat.le_refl _) (by omega)).mono ?_
        rintro e w25 ⟨v9, rfl, ho9, hb25⟩
        have sb_25 := sb_23.step hb25
        have sc_25 := sc_23.step hb25
        have sy_25 := sy_23.step hb25
        have si_25 := si24.step hb25
        clear sb_23 sc_23 sy_23 si24 hb25
        have so26 := St.own ho9
        clear ho9
        go_wp2_with fail
        refine (vInts_same _ v8 v9 w25 _ si_25.now so26.now (Nat.le_refl _)).mono ?_
        rintro e w27 ⟨rfl, hb27⟩
        have sb_27 := sb_25.step hb27
        have sc_27 := sc_25.step hb27
        have sy_27 := sy_25.step hb27
        have si_27 := si_25.step hb27
        have so_27 := so26.step hb27
        clear sb_25 sc_25 sy_25 si_25 so26 hb27
        go_wp2
        go_ret
        exact ⟨rfl, sb_27.now⟩
      · have o1 : f % 2 = 0 := by have := fun g => hneg (od.1 g); omega
        have o2 : f.tmod 2 = 0 := by rw [Int.tmod_eq_emod_of_nonneg hf0]; exact o1
        have o3 : decide (x < 0) = false := decide_eq_false hneg
        clear od
        go_wp2_with fail
        refine (implPw x w11 _ (Nat.le_refl _) hi).mono ?_
        rintro e w12 ⟨rfl, hb12⟩
        have sb_12 := sb_11.step hb12
        have sc_12 := sc_11.step hb12
        clear sb_11 sc_11 hb12
        go_wp2_with fail
        refine (specPw x w12 _ (Nat.le_refl _) hi).mono ?_
        rintro e w13 ⟨rfl, hb13⟩
        have sb_13 := sb_12.step hb13
        have sc_13 := sc_12.step hb13
        clear sb_12 sc_12 hb13
        clear hi
        go_wp2_with fail
        refine (drawFro w13 _ _ sc_13.now).mono ?_
        rintro e w14 ⟨v4, ys, rfl, hd4, hx4, ho4, hb14⟩
        have sb_14 := sb_13.step hb14
        have sc_14 := sc_13.step hb14
        clear sb_13 sc_13 hb14
        have sy15 := St.own ho4
        clear ho4
        go_wp2_with fail
        refine (implFro ys v4 w14 _ sy15.now (Nat.le_refl _) (by omega)).mono ?_
        rintro e w16 ⟨v5, rfl, ho5, hb16⟩
        have sb_16 := sb_14.step hb16
        have sc_16 := sc_14.step hb16
        have sy_16 := sy15.step hb16
        clear sb_14 sc_14 sy15 hb16
        have si17 := St.own ho5
        clear ho5
        go_wp2_with fail
        refine (specFro ys v4 w16 _ sy_16.now (Nat.le_refl _) (by omega)).mono ?_
        rintro e w18 ⟨v6, rfl, ho6, hb18⟩
        have sb_18 := sb_16.step hb18
        have sc_18 := sc_16.step hb18
        have sy_18 := sy_16.step hb18
        have si_18 := si17.step hb18
        clear sb_16 sc_16 sy_16 si17 hb18
        have so19 := St.own ho6
        clear ho6
        go_wp2_with fail
        refine (vInts_same _ v5 v6 w18 _ si_18.now so19.now (Nat.le_refl _)).mono ?_
        rintro e w20 ⟨rfl, hb20⟩
        have sb_20 := sb_18.step hb20
        have sc_20 := sc_18.step hb20
        have sy_20 := sy_18.step hb20
        have si_20 := si_18.step hb20
        have so_20 := so19.step hb20
        clear sb_18 sc_18 sy_18 si_18 so19 hb20
        clear si_20 so_20 sy_20
        go_wp2_with fail
        refine (drawWc w20 _ _ sc_20.now).mono ?_
        rintro e w21 ⟨v7, zs, rfl, hd7, hx7, ho7, hb21⟩
        have sb_21 := sb_20.step hb21
        have sc_21 := sc_20.step hb21
        clear sb_20 sc_20 hb21
        have sy22 := St.own ho7
        clear ho7
        go_wp2_with fail
        refine (implWc zs v7 w21 _ sy22.now (Nat.le_refl _) (by omega)).mono ?_
        rintro e w23 ⟨v8, rfl, ho8, hb23⟩
        have sb_23 := sb_21.step hb23
        have sc_23 := sc_21.step hb23
        have sy_23 := sy22.step hb23
        clear sb_21 sc_21 sy22 hb23
        have si24 := St.own ho8
        clear ho8
        go_wp2_with fail
        refine (specWc zs v7 w23 _ sy_23.now (Nat.le_refl _) (by omega)).mono ?_
        rintro e w25 ⟨v9, rfl, ho9, hb25⟩
        have sb_25 := sb_23.step hb25
        have sc_25 := sc_23.step hb25
        have sy_25 := sy_23.step hb25
        have si_25 := si24.step hb25
        clear sb_23 sc_23 sy_23 si24 hb25
        have so26 := St.own ho9
        clear ho9
        go_wp2_with fail
        refine (vInts_same _ v8 v9 w25 _ si_25.now so26.now (Nat.le_refl _)).mono ?_
        rintro e w27 ⟨rfl, hb27⟩
        have sb_27 := sb_25.step hb27
        have sc_27 := sc_25.step hb27
        have sy_27 := sy_25.step hb27
        have si_27 := si_25.step hb27
        have so_27 := so26.step hb27
        clear sb_25 sc_25 sy_25 si_25 so26 hb27
        go_wp2
        go_ret
        exact ⟨rfl, sb_27.now⟩
  | true =>
    go_wp2_with fail
    refine (vInts_same _ v2 v3 w6 _ sl_6.now sw7.now (Nat.le_refl _)).mono ?_
    rintro e w8 ⟨rfl, hb8⟩
    have sb_8 := sb_6.step hb8
    have sc_8 := sc_6.step hb8
    have sx_8 := sx_6.step hb8
    have sl_8 := sl_6.step hb8
    have sw_8 := sw7.step hb8
    clear sb_6 sc_6 sx_6 sl_6 sw7 hb8
    clear sw_8
    have e1 : resDif xs = dif xs := by unfold resDif; rw [hk]; rfl
    have e2 := dif_back hk
    have e3 : okFro (dif xs) = true := by unfold okFro; rw [e2, dif_len]; simp
    have e4 : resFro (dif xs) = xs := by unfold resFro; rw [e3, e2]; rfl
    have hdl := dif_len xs
    have e5 : resPck xs = pkD (dif xs) := by unfold resPck; rw [hk]; rfl
    have hod := dif_okD hk
    have h24 := (okL_yes hk).2
    rw [e1] at sl_8
    have HF := Lib.hid (fun v w' (h : Lst (Value.int .i64) w' w'.heap.size v (dif xs)) => implFro (dif xs) v w' _ h (Nat.le_refl _) (by omega))
    rw [e3, e4] at HF
    have HP := Lib.hid (fun v w' (h : Lst (Value.int .i64) w' w'.heap.size v xs) => implPck xs v w' _ h (Nat.le_refl _) (by omega))
    rw [hk, e5] at HP
    have HOD := Lib.hid hod
    have hdl2 : (dif xs).length ≤ 24 := by omega
    clear e1 e2 e3 e4 e5 hdl hod h24
    generalize dif xs = ds at *
    go_wp2_with fail
    refine (HF.out v2 w8 sl_8.now).mono ?_
    rintro e w9 ⟨v10, rfl, ho10, hb9⟩
    have sb_9 := sb_8.step hb9
    have sc_9 := sc_8.step hb9
    have sx_9 := sx_8.step hb9
    have sl_9 := sl_8.step hb9
    clear sb_8 sc_8 sx_8 sl_8 hb9
    have sk10 := St.own ho10
    clear ho10
    go_wp2_with fail
    refine (vInts_same _ v10 v1 w9 _ sk10.now sx_9.now (Nat.le_refl _)).mono ?_
    rintro e w11 ⟨rfl, hb11⟩
    have sb_11 := sb_9.step hb11
    have sc_11 := sc_9.step hb11
    have sx_11 := sx_9.step hb11
    have sl_11 := sl_9.step hb11
    have sk_11 := sk10.step hb11
    clear sb_9 sc_9 sx_9 sl_9 sk10 hb11
    clear sk_11
    obtain ⟨a2, c2, hv2, -, -, -, -⟩ := id sl_11.now
    subst hv2
    have HDS := Lib.hid sl_11
    go_wp2
    go_loopw [10, 11] (fun q i wr => ∃ (k : Nat), k ≤ ds.length ∧ i = .int .i64 k ∧ q = .int .i64 ((pkD (ds.take k)).length : Nat) ∧ Below w11.heap.size w11 wr) (fun _ i _ => ds.length - (intOf i).toNat)
    case atStart => exact ⟨0, Nat.zero_le _, rfl, by simp [pkD, pkN], Below.refl _ _⟩
    case round =>
      obtain ⟨k, hk9, rfl, rfl, hbl⟩ := hrel
      have hlk := pkD_lenk ds k
      by_cases hlt : k < ds.length
      case pos =>
        obtain ⟨y, hy⟩ := get_of_lt hlt
        have hoy := HOD.out y (List.mem_of_getElem? hy)
        obtain ⟨ao2, cap2, hv9, hq1, hq2, -, hc9⟩ := (HDS.out.step hbl).now
        simp only [Value.slice.injEq] at hv9
        obtain ⟨rfl, -, rfl⟩ := hv9
        obtain ⟨b, off, rfl, hb9, hcy⟩ := hc9 k y hy
        have HS := Lib.hid (congrArg List.length (pkD_step hy))
        have hw := byt_len (fold y)
        have hw2 := wid_pos (fold y)
        have e6 : resPw y = ((byt (fold y)).length : Int) := by unfold resPw; rw [hoy]; rfl
        have hiy : I64 y := by have := of_decide_eq_true hoy; unfold I64; omega
        have D := Lib.hid (implPw y wr _ (Nat.le_refl _) hiy)
        rw [e6, hoy] at D
        have HS2 := HS.out
        rw [List.length_append] at HS2
        have HS3 := Lib.hid HS2
        have hi0 : (0 : Int) ≤ (k : Int) := by omega
        have hi1 : (k : Int) < (ds.length : Int) := by omega
        clear hc9 hy e6 HS HS2
        generalize (byt (fold y)).length = q at *
        generalize (pkD (ds.take k)).length = p at *
        go_wp2_with fail
        refine D.out.mono ?_
        rintro e w8 ⟨rfl, hb8⟩
        go_wp2
        go_roundw
        case rel => exact ⟨k + 1, by omega, by go_num, by rw [HS3.out]; go_num, hbl.trans (hb8.mono hbl.size)⟩
        case measure => simp [intOf]; omega
      obtain rfl : k = ds.length := by omega
      rw [List.take_length] at *
      generalize pkD ds = bs at *
      have sb_z := sb_11.step hbl
      have sc_z := sc_11.step hbl
      have sx_z := sx_11.step hbl
      have sl_z := sl_11.step hbl
      clear HDS HOD HF hbl
      go_wp2_with fail
      refine (HP.out v1 wr sx_z.now).mono ?_
      rintro e w12 ⟨v11, rfl, ho11, hb12⟩
      have sb_12 := sb_z.step hb12
      have sc_12 := sc_z.step hb12
      have sx_12 := sx_z.step hb12
      have sl_12 := sl_z.step hb12
      clear sb_z sc_z sx_z sl_z hb12
      obtain ⟨a11, c11, rfl⟩ := ho11.form
      clear ho11 HP
      clear sl_12 sx_12
      go_wp2_with fail
      refine (drawFo w12 _ _ sc_12.now).mono ?_
      rintro e w13 ⟨x, rfl, hx1, hx2, hb13⟩
      have sb_13 := sb_12.step hb13
      have sc_13 := sc_12.step hb13
      clear sb_12 sc_12 hb13
      have hi : I64 x := by unfold I64; omega
      go_wp2_with fail
      refine (implFo x w13 _ (Nat.le_refl _) hi).mono ?_
      rintro e w14 ⟨rfl, hb14⟩
      have sb_14 := sb_13.step hb14
      have sc_14 := sc_13.step hb14
      clear sb_13 sc_13 hb14
      go_wp2_with fail
      refine (specFo x w14 _ (Nat.le_refl _) hi).mono ?_
      rintro e w15 ⟨rfl, hb15⟩
      have sb_15 := sb_14.step hb15
      have sc_15 := sc_14.step hb15
      clear sb_14 sc_14 hb15
      have hf0 := resFo_nonneg x
      cases hk2 : okD x with
      | false =>
        go_wp2_with fail
        refine (implPw x w15 _ (Nat.le_refl _) hi).mono ?_
        rintro e w16 ⟨rfl, hb16⟩
        have sb_16 := sb_15.step hb16
        have sc_16 := sc_15.step hb16
        clear sb_15 sc_15 hb16
        go_wp2_with fail
        refine (specPw x w16 _ (Nat.le_refl _) hi).mono ?_
        rintro e w17 ⟨rfl, hb17⟩
        have sb_17 := sb_16.step hb17
        have sc_17 := sc_16.step hb17
        clear sb_16 sc_16 hb17
        clear hi
        go_wp2_with fail
        refine (drawFro w17 _ _ sc_17.now).mono ?_
        rintro e w18 ⟨v4, ys, rfl, hd4, hx4, ho4, hb18⟩
        have sb_18 := sb_17.step hb18
        have sc_18 := sc_17.step hb18
        clear sb_17 sc_17 hb18
        have sy19 := St.own ho4
        clear ho4
        go_wp2_with fail
        refine (implFro ys v4 w18 _ sy19.now (Nat.le_refl _) (by omega)).mono ?_
        rintro e w20 ⟨v5, rfl, ho5, hb20⟩
        have sb_20 := sb_18.step hb20
        have sc_20 := sc_18.step hb20
        have sy_20 := sy19.step hb20
        clear sb_18 sc_18 sy19 hb20
        have si21 := St.own ho5
        clear ho5
        go_wp2_with fail
        refine (specFro ys v4 w20 _ sy_20.now (Nat.le_refl _) (by omega)).mono ?_
        rintro e w22 ⟨v6, rfl, ho6, hb22⟩
        have sb_22 := sb_20.step hb22
        have sc_22 := sc_20.step hb22
        have sy_22 := sy_20.step hb22
        have si_22 := si21.step hb22
        clear sb_20 sc_20 sy_20 si21 hb22
        have so23 := St.own ho6
        clear ho6
        go_wp2_with fail
        refine (vInts_same _ v5 v6 w22 _ si_22.now so23.now (Nat.le_refl _)).mono ?_
        rintro e w24 ⟨rfl, hb24⟩
        have sb_24 := sb_22.step hb24
        have sc_24 := sc_22.step hb24
        have sy_24 := sy_22.step hb24
        have si_24 := si_22.step hb24
        have so_24 := so23.step hb24
        clear sb_22 sc_22 sy_22 si_22 so23 hb24
        clear si_24 so_24 sy_24
        go_wp2_with fail
        refine (drawWc w24 _ _ sc_24.now).mono ?_
        rintro e w25 ⟨v7, zs, rfl, hd7, hx7, ho7, hb25⟩
        have sb_25 := sb_24.step hb25
        have sc_25 := sc_24.step hb25
        clear sb_24 sc_24 hb25
        have sy26 := St.own ho7
        clear ho7
        go_wp2_with fail
        refine (implWc zs v7 w25 _ sy26.now (Nat.le_refl _) (by omega)).mono ?_
        rintro e w27 ⟨v8, rfl, ho8, hb27⟩
        have sb_27 := sb_25.step hb27
        have sc_27 := sc_25.step hb27
        have sy_27 := sy26.step hb27
        clear sb_25 sc_25 sy26 hb27
        have si28 := St.own ho8
        clear ho8
        go_wp2_with fail
        refine (specWc zs v7 w27 _ sy_27.now (Nat.le_refl _) (by omega)).mono ?_
        rintro e w29 ⟨v9, rfl, ho9, hb29⟩
        have sb_29 := sb_27.step hb29
        have sc_29 := sc_27.step hb29
        have sy_29 := sy_27.step hb29
        have si_29 := si28.step hb29
        clear sb_27 sc_27 sy_27 si28 hb29
        have so30 := St.own ho9
        clear ho9
        go_wp2_with fail
        refine (vInts_same _ v8 v9 w29 _ si_29.now so30.now (Nat.le_refl _)).mono ?_
        rintro e w31 ⟨rfl, hb31⟩
        have sb_31 := sb_29.step hb31
        have sc_31 := sc_29.step hb31
        have sy_31 := sy_29.step hb31
        have si_31 := si_29.step hb31
        have so_31 := so30.step hb31
        clear sb_29 sc_29 sy_29 si_29 so30 hb31
        go_wp2
        go_ret
        exact ⟨rfl, sb_31.now⟩
      | true =>
        obtain ⟨od, hf9⟩ := resFo_odd hk2
        generalize resFo x = f at *
        by_cases hneg : x < 0
        · have o1 : f % 2 = 1 := od.2 hneg
          have o2 : f.tmod 2 = 1 := by rw [Int.tmod_eq_emod_of_nonneg hf0]; exact o1
          have o3 : decide (x < 0) = true := decide_eq_true hneg
          clear od
          go_wp2_with fail
          refine (implPw x w15 _ (Nat.le_refl _) hi).mono ?_
          rintro e w16 ⟨rfl, hb16⟩
          have sb_16 := sb_15.step hb16
          have sc_16 := sc_15.step hb16
          clear sb_15 sc_15 hb16
          go_wp2_with fail
          refine (specPw x w16 _ (Nat.le_refl _) hi).mono ?_
          rintro e w17 ⟨rfl, hb17⟩
          have sb_17 := sb_16.step hb17
          have sc_17 := sc_16.step hb17
          clear sb_16 sc_16 hb17
          clear hi
          go_wp2_with fail
          refine (drawFro w17 _ _ sc_17.now).mono ?_
          rintro e w18 ⟨v4, ys, rfl, hd4, hx4, ho4, hb18⟩
          have sb_18 := sb_17.step hb18
          have sc_18 := sc_17.step hb18
          clear sb_17 sc_17 hb18
          have sy19 := St.own ho4
          clear ho4
          go_wp2_with fail
          refine (implFro ys v4 w18 _ sy19.now (Nat.le_refl _) (by omega)).mono ?_
          rintro e w20 ⟨v5, rfl, ho5, hb20⟩
          have sb_20 := sb_18.step hb20
          have sc_20 := sc_18.step hb20
          have sy_20 := sy19.step hb20
          clear sb_18 sc_18 sy19 hb20
          have si21 := St.own ho5
          clear ho5
          go_wp2_with fail
          refine (specFro ys v4 w20 _ sy_20.now (Nat.le_refl _) (by omega)).mono ?_
          rintro e w22 ⟨v6, rfl, ho6, hb22⟩
          have sb_22 := sb_20.step hb22
          have sc_22 := sc_20.step hb22
          have sy_22 := sy_20.step hb22
          have si_22 := si21.step hb22
          clear sb_20 sc_20 sy_20 si21 hb22
          have so23 := St.own ho6
          clear ho6
          go_wp2_with fail
          refine (vInts_same _ v5 v6 w22 _ si_22.now so23.now (Nat.le_refl _)).mono ?_
          rintro e w24 ⟨rfl, hb24⟩
          have sb_24 := sb_22.step hb24
          have sc_24 := sc_22.step hb24
          have sy_24 := sy_22.step hb24
          have si_24 := si_22.step hb24
          have so_24 := so23.step hb24
          clear sb_22 sc_22 sy_22 si_22 so23 hb24
          clear si_24 so_24 sy_24
          go_wp2_with fail
          refine (drawWc w24 _ _ sc_24.now).mono ?_
          rintro e w25 ⟨v7, zs, rfl, hd7, hx7, ho7, hb25⟩
          have sb_25 := sb_24.step hb25
          have sc_25 := sc_24.step hb25
          clear sb_24 sc_24 hb25
          have sy26 := St.own ho7
          clear ho7
          go_wp2_with fail
          refine (implWc zs v7 w25 _ sy26.now (Nat.le_refl _) (by omega)).mono ?_
          rintro e w27 ⟨v8, rfl, ho8, hb27⟩
          have sb_27 := sb_25.step hb27
          have sc_27 := sc_25.step hb27
          have sy_27 := sy26.step hb27
          clear sb_25 sc_25 sy26 hb27
          have si28 := St.own ho8
          clear ho8
          go_wp2_with fail
          refine (specWc zs v7 w27 _ sy_27.now (Nat.le_refl _) (by omega)).mono ?_
          rintro e w29 ⟨v9, rfl, ho9, hb29⟩
          have sb_29 := sb_27.step hb29
          have sc_29 := sc_27.step hb29
          have sy_29 := sy_27.step hb29
          have si_29 := si28.step hb29
          clear sb_27 sc_27 sy_27 si28 hb29
          have so30 := St.own ho9
          clear ho9
          go_wp2_with fail
          refine (vInts_same _ v8 v9 w29 _ si_29.now so30.now (Nat.le_refl _)).mono ?_
          rintro e w31 ⟨rfl, hb31⟩
          have sb_31 := sb_29.step hb31
          have sc_31 := sc_29.step hb31
          have sy_31 := sy_29.step hb31
          have si_31 := si_29.step hb31
          have so_31 := so30.step hb31
          clear sb_29 sc_29 sy_29 si_29 so30 hb31
          go_wp2
          go_ret
          exact ⟨rfl, sb_31.now⟩
        · have o1 : f % 2 = 0 := by have := fun g => hneg (od.1 g); omega
          have o2 : f.tmod 2 = 0 := by rw [Int.tmod_eq_emod_of_nonneg hf0]; exact o1
          have o3 : decide (x < 0) = false := decide_eq_false hneg
          clear od
          go_wp2_with fail
          refine (implPw x w15 _ (Nat.le_refl _) hi).mono ?_
          rintro e w16 ⟨rfl, hb16⟩
          have sb_16 := sb_15.step hb16
          have sc_16 := sc_15.step hb16
          clear sb_15 sc_15 hb16
          go_wp2_with fail
          refine (specPw x w16 _ (Nat.le_refl _) hi).mono ?_
          rintro e w17 ⟨rfl, hb17⟩
          have sb_17 := sb_16.step hb17
          have sc_17 := sc_16.step hb17
          clear sb_16 sc_16 hb17
          clear hi
          go_wp2_with fail
          refine (drawFro w17 _ _ sc_17.now).mono ?_
          rintro e w18 ⟨v4, ys, rfl, hd4, hx4, ho4, hb18⟩
          have sb_18 := sb_17.step hb18
          have sc_18 := sc_17.step hb18
          clear sb_17 sc_17 hb18
          have sy19 := St.own ho4
          clear ho4
          go_wp2_with fail
          refine (implFro ys v4 w18 _ sy19.now (Nat.le_refl _) (by omega)).mono ?_
          rintro e w20 ⟨v5, rfl, ho5, hb20⟩
          have sb_20 := sb_18.step hb20
          have sc_20 := sc_18.step hb20
          have sy_20 := sy19.step hb20
          clear sb_18 sc_18 sy19 hb20
          have si21 := St.own ho5
          clear ho5
          go_wp2_with fail
          refine (specFro ys v4 w20 _ sy_20.now (Nat.le_refl _) (by omega)).mono ?_
          rintro e w22 ⟨v6, rfl, ho6, hb22⟩
          have sb_22 := sb_20.step hb22
          have sc_22 := sc_20.step hb22
          have sy_22 := sy_20.step hb22
          have si_22 := si21.step hb22
          clear sb_20 sc_20 sy_20 si21 hb22
          have so23 := St.own ho6
          clear ho6
          go_wp2_with fail
          refine (vInts_same _ v5 v6 w22 _ si_22.now so23.now (Nat.le_refl _)).mono ?_
          rintro e w24 ⟨rfl, hb24⟩
          have sb_24 := sb_22.step hb24
          have sc_24 := sc_22.step hb24
          have sy_24 := sy_22.step hb24
          have si_24 := si_22.step hb24
          have so_24 := so23.step hb24
          clear sb_22 sc_22 sy_22 si_22 so23 hb24
          clear si_24 so_24 sy_24
          go_wp2_with fail
          refine (drawWc w24 _ _ sc_24.now).mono ?_
          rintro e w25 ⟨v7, zs, rfl, hd7, hx7, ho7, hb25⟩
          have sb_25 := sb_24.step hb25
          have sc_25 := sc_24.step hb25
          clear sb_24 sc_24 hb25
          have sy26 := St.own ho7
          clear ho7
          go_wp2_with fail
          refine (implWc zs v7 w25 _ sy26.now (Nat.le_refl _) (by omega)).mono ?_
          rintro e w27 ⟨v8, rfl, ho8, hb27⟩
          have sb_27 := sb_25.step hb27
          have sc_27 := sc_25.step hb27
          have sy_27 := sy26.step hb27
          clear sb_25 sc_25 sy26 hb27
          have si28 := St.own ho8
          clear ho8
          go_wp2_with fail
          refine (specWc zs v7 w27 _ sy_27.now (Nat.le_refl _) (by omega)).mono ?_
          rintro e w29 ⟨v9, rfl, ho9, hb29⟩
          have sb_29 := sb_27.step hb29
          have sc_29 := sc_27.step hb29
          have sy_29 := sy_27.step hb29
          have si_29 := si28.step hb29
          clear sb_27 sc_27 sy_27 si28 hb29
          have so30 := St.own ho9
          clear ho9
          go_wp2_with fail
          refine (vInts_same _ v8 v9 w29 _ si_29.now so30.now (Nat.le_refl _)).mono ?_
          rintro e w31 ⟨rfl, hb31⟩
          have sb_31 := sb_29.step hb31
          have sc_31 := sc_29.step hb31
          have sy_31 := sy_29.step hb31
          have si_31 := si_29.step hb31
          have so_31 := so30.step hb31
          clear sb_29 sc_29 sy_29 si_29 so30 hb31
          go_wp2
          go_ret
          exact ⟨rfl, sb_31.now⟩

set_option maxRecDepth 100000 in
theorem walk_all (v : Value) {H : Type} {enc : TypeId × Value → H} {base : Nat} {d : DataW H} {ps : List MemPlace} {w : World} (hval : Value.okWide Try.prog w .any base 33 v)
    (hd : DataW.Trod enc Try.prog w 0 (fun _ => true) true 33 v d ps) :
    Calls Try.prog 13 #[v] w fun e w' => e = .returned (.bool true) ∧ Below w.heap.size w w' := by
  obtain ⟨ao, n, cap, rfl, hn, hc⟩ := open_code Try.underlying33 Try.underlying5 (by kernel_rfl) hval hd
  by_cases h : n ≤ 65536
  · exact walk_main ao n cap w h hc
  · have hi : (65536 : Int) < n := by omega
    go_enter Try.func13, Try.ntmps13
    go_wp2_with fail
    refine (vBig_yes n cap ao _ hi).mono ?_
    rintro e w0 ⟨rfl, hw⟩
    obtain rfl := hw.symm
    go_wp2
    go_ret
    exact ⟨rfl, Below.refl _ _⟩

set_option maxRecDepth 100000 in
theorem contract (H : Type) (enc : TypeId × Value → H) (W : World) (base : Nat) (args : Array Value) (ds gs : List (DataW H)) (before : List MemPlace)
    (hval : ∀ (j : Nat) t v, Try.f13.params[j]? = some t → args[j]? = some v → Value.okWide Try.prog W .any base t v)
    (hW : DataW.Whole enc Try.prog Try.f13.params.toList Rows.fnDifferencesSpec.vars false W args.toList ds gs before) :
    Calls Try.prog 13 args W fun e W' => ∃ v, e = .returned v ∧ Rows.fnDifferencesSpec.post enc Try.prog Try.f13 false true false false W args v W' := by
  have hW' := hW
  obtain ⟨p, q, hA0, hV, rfl, hfz, hnd⟩ := hW
  have hA : DataW.TrodAll enc Try.prog W 0 (fun _ => true) true Try.f13.params.toList args.toList ds p := hA0
  rw [Try.params13] at hA hval
  obtain ⟨v0, vs0, d0, ds0, p0, q0, hargs, rfl, rfl, h0, r0⟩ := trodAll_cons hA
  obtain ⟨rfl, rfl, rfl⟩ := trodAll_nil r0
  obtain rfl : args = #[v0] := by cases args; simp_all
  refine lawPost rfl rfl Try.underlying4 (by kernel_rfl) (by kernel_rfl) hW' (fun hg => by subst hg; exact ⟨rfl, rfl, rfl⟩) ?_
  exact walk_all v0 (hval 0 33 v0 rfl rfl) h0

set_option maxRecDepth 100000 in
theorem lifted (os : Os) (started : os.Started) (H : Type) (enc : TypeId × Value → H) :
    ReturnsInHanded {} Try.checked os 13 .any (Rows.fnDifferencesSpec.pre6 enc Try.prog Try.f13 Rows.fnDifferencesRow.domain false) (Rows.fnDifferencesSpec.post enc Try.prog Try.f13 false true false false) := by
  refine returnsInHanded_of_change (C := Try.checked) (s := Rows.fnDifferencesSpec) own started (by kernel_rfl) Try.func13
    (ChangeSpec.witness6 (enc := enc) (C := Try.checked) (s := Rows.fnDifferencesSpec) false ⟨#[], #[.slice none 0 0], []⟩ 8 (by kernel_rfl) (by kernel_rfl) (by kernel_rfl) (by kernel_rfl)) ?_
  intro W base args ds gs before hval hW _ _
  exact contract H enc W base args ds gs before hval hW

set_option maxRecDepth 100000 in
theorem said : Rows.FnDifferencesSaid :=
  OpenClaim.holds_of_wide 13 Try.f13 rfl rfl rfl rfl rfl rfl rfl ⟨rfl, rfl, rfl, rfl, rfl⟩ rfl rfl rfl rfl rfl (by kernel_rfl) Try.func13 (by kernel_rfl)
    (of_decide_eq_true (by kernel_rfl)) (by unfold Func.isWrapper; first | (rw [if_pos (by decide +kernel)]; kernel_rfl) | (rw [if_neg (by decide +kernel)]; exact ⟨rfl, rfl⟩))
    (fun os started H enc _ => lifted os started H enc)
end Go.Proofs.Ytkgohnlljbamlaa.fnDifferences
