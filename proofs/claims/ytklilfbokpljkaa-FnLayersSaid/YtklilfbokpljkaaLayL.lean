/- FnLayers: for every code the law answers true; no condition. -/
import Derived.Test.YtklilfbokpljkaaEdC
import Derived.Test.YtklilfbokpljkaaErQ
import Derived.Test.YtklilfbokpljkaaErE
import Derived.Test.YtklilfbokpljkaaErF
import Derived.Test.YtklilfbokpljkaaErL
import Derived.Test.YtklilfbokpljkaaErP
import Derived.Test.YtklilfbokpljkaaErO
import Derived.Test.YtklilfbokpljkaaVi
import Derived.Deep.CutBlock
import Derived.Deep.CutRange
import Derived.Deep.DeepCutAuto
namespace Go.Proofs.Ytklilfbokpljkaa.fnLayers
open Go.ChangeShapes Go.WideShapes Go.ChangeAt Go.RowKit Go.ChangeMaps
set_option linter.unusedSimpArgs false
set_option linter.unusedVariables false

theorem own : ownKnob Try.prog.godebug = none := by kernel_rfl

theorem St.er {w : World} {v : Value} {xs : List GEarth} (h : EarthL w w.heap.size v xs) : St w (fun w' => EarthL w' w'.heap.size v xs) := fun w' hb => (h.below hb).mono hb.size
set_option maxRecDepth 100000 in
set_option maxHeartbeats 4000000 in
theorem walk_main (ao : Option Addr) (n cap : Nat) (w : World) (hn : n ≤ 65536) (hcode : Code w w.heap.size ao n) :
    Calls Try.prog 7 #[.slice ao n cap] w fun e w' => e = .returned (.bool true) ∧ Below w.heap.size w w' := by
  have C0 : CodeArg w w.heap.size (.slice ao n cap) := ⟨Nat.le_refl _, ao, n, cap, rfl, hn, hcode⟩
  clear hcode
  have hni : (n : Int) ≤ 65536 := by omega
  have sb0 := St.chain w
  have sc0 := St.code C0
  clear C0
  go_enter Try.func7, Try.ntmps7
  go_wp2_with fail
  refine (vBig_no n cap ao w hni).mono ?_
  rintro e w1 ⟨rfl, hw1⟩
  obtain rfl := hw1.symm
  go_wp2_with fail
  refine (drawOv w _ _ sc0.now).mono ?_
  rintro e w2 ⟨v1, xs, l, rfl, hbl9, hD1⟩
  have sb_2 := sb0.step hD1.below
  have sc_2 := sc0.step hD1.below
  clear sb0 sc0
  have s13 := St.er hD1.lst
  obtain ⟨a1, c1, rfl⟩ := hD1.lst.form
  have hz1 : szsEarth xs ≤ 1048576 := mdl_sz hD1.len
  have hw1 : ∀ s ∈ xs, wfEarth s := fun s hs => (hD1.bd s hs).wf
  have hm1 : xs.length ≤ 6 := hD1.len
  clear hD1
  have hIl : I64 l := by unfold I64; omega
  go_wp2_with fail
  refine (implOv xs _ l w2 _ s13.now (Nat.le_refl _) hz1 hw1 hIl).mono ?_
  rintro e w4 ⟨rfl, hb4⟩
  have sb_4 := sb_2.step hb4
  have sc_4 := sc_2.step hb4
  have s1_4 := s13.step hb4
  clear sb_2 sc_2 s13 hb4
  go_wp2_with fail
  refine (specOv xs _ l w4 _ s1_4.now (Nat.le_refl _) hz1 hw1 hIl).mono ?_
  rintro e w5 ⟨rfl, hb5⟩
  have sb_5 := sb_4.step hb5
  have sc_5 := sc_4.step hb5
  have s1_5 := s1_4.step hb5
  clear sb_4 sc_4 s1_4 hb5
  have HR := Lib.hid (fun h => over_facts (xs := xs) (l := l) h)
  generalize atOv xs l = d at *
  generalize okOv xs l = k1 at *
  go_upto_if 68 with fail
  go_cut [9, 10, 11, 12, 13, 14, 15] from 69 to 104 (fun _ _ _ _ _ _ _ wx => Below w5.heap.size w5 wx)
  case first =>
    have cb6 := St.chain w5
    cases k1 with
    | false =>
      go_wp2
      go_meet
      exact cb6.now
    | true =>
      obtain ⟨⟨hl1, hl4⟩, hId, hv, hk⟩ := HR.out rfl
      clear HR
      have C1 := implVi xs _ l d w5 _ s1_5.now (Nat.le_refl _) hz1 hw1 hIl hId
      rw [hv] at C1
      obtain ⟨⟨ab0, ab1⟩, bb0, bb1⟩ := vi_bd hv
      have HK := Lib.hid hk
      clear hv hk
      generalize numVi xs l d = a at *
      generalize denVi xs l d = b at *
      have C1 := Lib.hid C1
      go_wp2_with fail
      refine (C1.out).mono ?_
      rintro e w7 ⟨rfl, hb7⟩
      have sb_7 := sb_5.step hb7
      have sc_7 := sc_5.step hb7
      have s1_7 := s1_5.step hb7
      have cb_7 := cb6.step hb7
      clear sb_5 sc_5 s1_5 cb6 hb7
      clear C1
      have CV := Lib.hid (fun v w' (k : Nat) (hk : (k : Int) < l) (h : EarthL w' w'.heap.size v xs) => implVi xs v (k : Int) d w' _ h (Nat.le_refl _) hz1 hw1 (by unfold I64; omega) hId)
      have HS1 := Lib.hid s1_7
      obtain ⟨m, rfl⟩ : ∃ m : Nat, l = (m : Int) := ⟨l.toNat, by omega⟩
      clear s1_7
      go_wp2_with fail
      go_loopw [12] (fun i wr => ∃ k : Nat, k ≤ m ∧ i = .int .i64 k ∧ Below w7.heap.size w7 wr) (fun i _ => m - (intOf i).toNat)
      case atStart => exact ⟨0, Nat.zero_le _, rfl, Below.refl _ _⟩
      case round =>
        obtain ⟨k, hk1, rfl, hbl⟩ := hrel
        by_cases hlt : k < m
        case pos =>
          obtain ⟨hv, hn⟩ := HK.out k (by omega)
          have C1 := CV.out _ wr k (by omega) ((HS1.out.step hbl).now)
          rw [hv] at C1
          obtain ⟨⟨cb0, cb1⟩, eb0, eb1⟩ := vi_bd hv
          clear hv
          generalize numVi xs (k : Int) d = c at *
          generalize denVi xs (k : Int) d = f at *
          have m1 := mul_bdE (A := 22500000000) (C := 312500000) ab0 ab1 (show 0 ≤ f by omega) eb1
          have m2 := mul_bdE (A := 22500000000) (C := 312500000) cb0 cb1 (show 0 ≤ b by omega) bb1
          have t1 : IntKind.i64.wrap (a * f) = a * f := IntWalk.i64_in _ (by omega)
          have t2 : IntKind.i64.wrap (c * b) = c * b := IntWalk.i64_in _ (by omega)
          have C1 := Lib.hid C1
          have HB := Lib.hid hbl
          have mp1 : (k : Int) < (m : Int) := by omega
          have hge : ¬ c * b ≤ a * f := by omega
          clear m1 m2 HK CV HS1
          go_wp2_with fail
          refine C1.out.mono ?_
          rintro e wA ⟨rfl, hA⟩
          have qA := HB.out.trans (hA.mono HB.out.size)
          go_wp2
          go_roundw
          case rel => exact ⟨k + 1, by omega, by go_num, qA⟩
          case measure => simp [intOf]; omega
        have hge : ¬ (k : Int) < (m : Int) := by omega
        have sb_y := sb_7.step hbl
        have sc_y := sc_7.step hbl
        have cb_y := cb_7.step hbl
        clear HK CV HS1
        go_wp2
        go_meet
        exact cb_y.now
  case rest =>
    have hb7 := hcut
    clear hcut
    obtain ⟨w7, hwc7⟩ : ∃ x, x = wc := ⟨wc, rfl⟩
    subst hwc7
    have sb_7 := sb_5.step hb7
    have sc_7 := sc_5.step hb7
    have s1_7 := s1_5.step hb7
    clear sb_5 sc_5 s1_5 hb7
    clear HR hz1 hw1 hIl hbl9 hm1
    clear s1_7
    go_wp2_with fail
    refine (drawTo w7 _ _ sc_7.now).mono ?_
    rintro e w8 ⟨v2, ys, x, rfl, hbx, hD2⟩
    have sb_8 := sb_7.step hD2.below
    have sc_8 := sc_7.step hD2.below
    clear sb_7 sc_7
    have s29 := St.er hD2.lst
    obtain ⟨a2, c2, rfl⟩ := hD2.lst.form
    have hz2 : szsEarth ys ≤ 1048576 := mdl_sz hD2.len
    have hw2 : ∀ s ∈ ys, wfEarth s := fun s hs => (hD2.bd s hs).wf
    have hm2 : ys.length ≤ 6 := hD2.len
    clear hD2
    have hIx : I64 x := by unfold I64; omega
    go_wp2_with fail
    refine (implTo3 ys _ x w8 _ s29.now (Nat.le_refl _) hz2 hw2 hIx).mono ?_
    rintro e w10 ⟨rfl, hb10⟩
    have sb_10 := sb_8.step hb10
    have sc_10 := sc_8.step hb10
    have s2_10 := s29.step hb10
    clear sb_8 sc_8 s29 hb10
    go_wp2_with fail
    refine (specTo3 ys _ x w10 _ s2_10.now (Nat.le_refl _) hz2 hw2 hIx).mono ?_
    rintro e w11 ⟨rfl, hb11⟩
    have sb_11 := sb_10.step hb11
    have sc_11 := sc_10.step hb11
    have s2_11 := s2_10.step hb11
    clear sb_10 sc_10 s2_10 hb11
    have CFi := Lib.hid (fun v w' (h : EarthL w' w'.heap.size v ys) => implMs ys v x w' _ h (Nat.le_refl _) hz2 hw2 hIx)
    have CSi := Lib.hid (fun v w' (h : EarthL w' w'.heap.size v ys) => specMs ys v x w' _ h (Nat.le_refl _) hz2 hw2 hIx)
    have hmk := mean_ok ys x
    have HMF := Lib.hid (fun h => mean_facts (xs := ys) (d := x) h)
    generalize okMs ys x = kp at *
    generalize numTo ys x = n1 at *
    generalize denTo ys x = d1 at *
    generalize okTo ys x = k1 at *
    generalize numMs ys x = n2 at *
    generalize denMs ys x = d2 at *
    have HPZ := Lib.hid hmk
    clear hmk
    go_wp2_with fail
    refine (CFi.out _ w11 s2_11.now).mono ?_
    rintro e w12 ⟨rfl, hb12⟩
    have sb_12 := sb_11.step hb12
    have sc_12 := sc_11.step hb12
    have s2_12 := s2_11.step hb12
    clear sb_11 sc_11 s2_11 hb12
    go_wp2_with fail
    refine (CSi.out _ w12 s2_12.now).mono ?_
    rintro e w13 ⟨rfl, hb13⟩
    have sb_13 := sb_12.step hb13
    have sc_13 := sc_12.step hb13
    have s2_13 := s2_12.step hb13
    clear sb_12 sc_12 s2_12 hb13
    clear CFi CSi hz2 hw2 hIx hbx hm2
    clear s2_13
    go_upto_region 23 with fail
    go_cut [172] from 151 to 172 (fun c wx => c = .bool false ∧ Below w13.heap.size w13 wx)
    case first =>
      have cb14 := St.chain w13
      cases k1 with
      | false =>
        by_cases h0 : 0 < x
        · have hpz := HPZ.out
          have g0 : decide (0 < x) = true := decide_eq_true h0
          rw [g0] at hpz
          simp only [Bool.and_true, Bool.and_false, Bool.true_and, Bool.false_and] at hpz
          subst hpz
          clear HPZ g0
          go_wp2
          go_meet
          exact ⟨rfl, cb14.now⟩
        · have hpz := HPZ.out
          have g0 : decide (0 < x) = false := decide_eq_false h0
          rw [g0] at hpz
          simp only [Bool.and_true, Bool.and_false, Bool.true_and, Bool.false_and] at hpz
          subst hpz
          clear HPZ g0
          go_wp2
          go_meet
          exact ⟨rfl, cb14.now⟩
      | true =>
        by_cases h0 : 0 < x
        · have hpz := HPZ.out
          have g0 : decide (0 < x) = true := decide_eq_true h0
          rw [g0] at hpz
          simp only [Bool.and_true, Bool.and_false, Bool.true_and, Bool.false_and] at hpz
          subst hpz
          clear HPZ g0
          go_wp2
          go_meet
          exact ⟨rfl, cb14.now⟩
        · have hpz := HPZ.out
          have g0 : decide (0 < x) = false := decide_eq_false h0
          rw [g0] at hpz
          simp only [Bool.and_true, Bool.and_false, Bool.true_and, Bool.false_and] at hpz
          subst hpz
          clear HPZ g0
          go_wp2
          go_meet
          exact ⟨rfl, cb14.now⟩
    case rest =>
      obtain ⟨rfl, hb15⟩ := hcut
      obtain ⟨w15, hwc15⟩ : ∃ x, x = wc := ⟨wc, rfl⟩
      subst hwc15
      have sb_15 := sb_13.step hb15
      have sc_15 := sc_13.step hb15
      clear sb_13 sc_13 hb15
      go_upto_region 25 with fail
      go_cut [184] from 173 to 184 (fun c wx => c = .bool false ∧ Below w15.heap.size w15 wx)
      case first =>
        have cb16 := St.chain w15
        cases kp with
        | false =>
          clear HMF HPZ
          go_wp2
          go_meet
          exact ⟨rfl, cb16.now⟩
        | true =>
          obtain ⟨⟨q0, q1⟩, qe⟩ := HMF.out rfl
          have t1 : IntKind.i64.wrap (x * d2) = x * d2 := IntWalk.i64_in _ (by omega)
          clear HMF HPZ q0 q1
          go_wp2
          go_meet
          exact ⟨rfl, cb16.now⟩
      case rest =>
        obtain ⟨rfl, hb17⟩ := hcut
        obtain ⟨w17, hwc17⟩ : ∃ x, x = wc := ⟨wc, rfl⟩
        subst hwc17
        have sb_17 := sb_15.step hb17
        have sc_17 := sc_15.step hb17
        clear sb_15 sc_15 hb17
        clear HMF HPZ
        go_upto_region 27 with fail
        go_wp2_with fail
        refine (drawMd w17 _ _ sc_17.now).mono ?_
        rintro e w18 ⟨v3, zs, rfl, hD3⟩
        have sb_18 := sb_17.step hD3.below
        have sc_18 := sc_17.step hD3.below
        clear sb_17 sc_17
        have s319 := St.er hD3.lst
        obtain ⟨a3, c3, rfl⟩ := hD3.lst.form
        have hz3 : szsEarth zs ≤ 1048576 := mdl_sz hD3.len
        have hw3 : ∀ s ∈ zs, wfEarth s := fun s hs => (hD3.bd s hs).wf
        have hm3 : zs.length ≤ 6 := hD3.len
        clear hD3
        clear sc_18
        go_wp2_with fail
        refine (implMd zs _ w18 _ s319.now (Nat.le_refl _) hz3 hw3).mono ?_
        rintro e w20 ⟨rfl, hb20⟩
        have sb_20 := sb_18.step hb20
        have s3_20 := s319.step hb20
        clear sb_18 s319 hb20
        go_wp2_with fail
        refine (specMd zs _ w20 _ s3_20.now (Nat.le_refl _) hz3 hw3).mono ?_
        rintro e w21 ⟨rfl, hb21⟩
        have sb_21 := sb_20.step hb21
        have s3_21 := s3_20.step hb21
        clear sb_20 s3_20 hb21
        have hnb := numMd_bd zs
        have HDF := Lib.hid (fun h => depth_facts (xs := zs) h)
        have C1 := Lib.hid (fun v w' (h : EarthL w' w'.heap.size v zs) => implTo3 zs v (numMd zs) w' _ h (Nat.le_refl _) hz3 hw3 (by unfold I64; omega))
        have C2 := Lib.hid (fun v w' (h : EarthL w' w'.heap.size v zs) => implTo3 zs v (numMd zs + 1) w' _ h (Nat.le_refl _) hz3 hw3 (by unfold I64; omega))
        have t1 : IntKind.i64.wrap (numMd zs + 1) = numMd zs + 1 := IntWalk.i64_in _ (by omega)
        clear hnb
        generalize okMd zs = k3 at *
        cases k3 with
        | false =>
          clear HDF C1 C2
          go_wp2
          go_ret
          exact ⟨by first | rfl | exact ret_bool (by simp), sb_21.now⟩
        | true =>
          obtain ⟨g1, g2⟩ := HDF.out rfl
          rw [g1] at C1
          rw [g2] at C2
          clear HDF g1 g2
          generalize numTo zs (numMd zs) = a1 at *
          generalize denTo zs (numMd zs) = b1 at *
          generalize numTo zs (numMd zs + 1) = a2 at *
          generalize denTo zs (numMd zs + 1) = b2 at *
          generalize numMd zs = nm at *
          go_wp2_with fail
          refine (C1.out _ w21 s3_21.now).mono ?_
          rintro e w22 ⟨rfl, hb22⟩
          have sb_22 := sb_21.step hb22
          have s3_22 := s3_21.step hb22
          clear sb_21 s3_21 hb22
          go_wp2_with fail
          refine (C2.out _ w22 s3_22.now).mono ?_
          rintro e w23 ⟨rfl, hb23⟩
          have sb_23 := sb_22.step hb23
          have s3_23 := s3_22.step hb23
          clear sb_22 s3_22 hb23
          clear C1 C2
          go_wp2
          go_ret
          exact ⟨by first | rfl | exact ret_bool (by simp), sb_23.now⟩

set_option maxRecDepth 100000 in
theorem walk_all (v : Value) {H : Type} {enc : TypeId × Value → H} {base : Nat} {d : DataW H} {ps : List MemPlace} {w : World} (hval : Value.okWide Try.prog w .any base 32 v)
    (hd : DataW.Trod enc Try.prog w 0 (fun _ => true) true 32 v d ps) :
    Calls Try.prog 7 #[v] w fun e w' => e = .returned (.bool true) ∧ Below w.heap.size w w' := by
  obtain ⟨ao, n, cap, rfl, hn, hc⟩ := open_code Try.underlying32 Try.underlying5 (by kernel_rfl) hval hd
  by_cases h : n ≤ 65536
  · exact walk_main ao n cap w h hc
  · have hi : (65536 : Int) < n := by omega
    go_enter Try.func7, Try.ntmps7
    go_wp2_with fail
    refine (vBig_yes n cap ao _ hi).mono ?_
    rintro e w0 ⟨rfl, hw⟩
    obtain rfl := hw.symm
    go_wp2
    go_ret
    exact ⟨rfl, Below.refl _ _⟩

set_option maxRecDepth 100000 in
theorem contract (H : Type) (enc : TypeId × Value → H) (W : World) (base : Nat) (args : Array Value) (ds gs : List (DataW H)) (before : List MemPlace)
    (hval : ∀ (j : Nat) t v, Try.f7.params[j]? = some t → args[j]? = some v → Value.okWide Try.prog W .any base t v)
    (hW : DataW.Whole enc Try.prog Try.f7.params.toList Rows.fnLayersSpec.vars false W args.toList ds gs before) :
    Calls Try.prog 7 args W fun e W' => ∃ v, e = .returned v ∧ Rows.fnLayersSpec.post enc Try.prog Try.f7 false true false false W args v W' := by
  have hW' := hW
  obtain ⟨p, q, hA0, hV, rfl, hfz, hnd⟩ := hW
  have hA : DataW.TrodAll enc Try.prog W 0 (fun _ => true) true Try.f7.params.toList args.toList ds p := hA0
  rw [Try.params7] at hA hval
  obtain ⟨v0, vs0, d0, ds0, p0, q0, hargs, rfl, rfl, h0, r0⟩ := trodAll_cons hA
  obtain ⟨rfl, rfl, rfl⟩ := trodAll_nil r0
  obtain rfl : args = #[v0] := by cases args; simp_all
  refine lawPost rfl rfl Try.underlying4 (by kernel_rfl) (by kernel_rfl) hW' (fun hg => by subst hg; exact ⟨rfl, rfl, rfl⟩) ?_
  exact walk_all v0 (hval 0 32 v0 rfl rfl) h0

set_option maxRecDepth 100000 in
theorem lifted (os : Os) (started : os.Started) (H : Type) (enc : TypeId × Value → H) :
    ReturnsInHanded {} Try.checked os 7 .any (Rows.fnLayersSpec.pre6 enc Try.prog Try.f7 Rows.fnLayersRow.domain false) (Rows.fnLayersSpec.post enc Try.prog Try.f7 false true false false) := by
  refine returnsInHanded_of_change (C := Try.checked) (s := Rows.fnLayersSpec) own started (by kernel_rfl) Try.func7
    (ChangeSpec.witness6 (enc := enc) (C := Try.checked) (s := Rows.fnLayersSpec) false ⟨#[], #[.slice none 0 0], []⟩ 8 (by kernel_rfl) (by kernel_rfl) (by kernel_rfl) (by kernel_rfl)) ?_
  intro W base args ds gs before hval hW _ _
  exact contract H enc W base args ds gs before hval hW

set_option maxRecDepth 100000 in
theorem said : Rows.FnLayersSaid :=
  OpenClaim.holds_of_wide 7 Try.f7 rfl rfl rfl rfl rfl rfl rfl ⟨rfl, rfl, rfl, rfl, rfl⟩ rfl rfl rfl rfl rfl (by kernel_rfl) Try.func7 (by kernel_rfl)
    (of_decide_eq_true (by kernel_rfl)) (by unfold Func.isWrapper; first | (rw [if_pos (by decide +kernel)]; kernel_rfl) | (rw [if_neg (by decide +kernel)]; exact ⟨rfl, rfl⟩))
    (fun os started H enc _ => lifted os started H enc)
end Go.Proofs.Ytklilfbokpljkaa.fnLayers
