/- FnTravel: for every code the law answers true; no condition. -/
import Derived.Test.YtklilfbokpljkaaEdC
import Derived.Test.YtklilfbokpljkaaErQ
import Derived.Test.YtklilfbokpljkaaErE
import Derived.Test.YtklilfbokpljkaaErF
import Derived.Test.YtklilfbokpljkaaErL
import Derived.Test.YtklilfbokpljkaaErP
import Derived.Test.YtklilfbokpljkaaErO
import Derived.Test.YtklilfbokpljkaaVi
import Derived.Deep.CutBlock
import Derived.Deep.CutRange
import Derived.Deep.DeepCutAuto
namespace Go.Proofs.Ytklilfbokpljkaa.fnTravel
open Go.ChangeShapes Go.WideShapes Go.ChangeAt Go.RowKit Go.ChangeMaps
set_option linter.unusedSimpArgs false
set_option linter.unusedVariables false

theorem own : ownKnob Try.prog.godebug = none := by kernel_rfl

theorem St.er {w : World} {v : Value} {xs : List GEarth} (h : EarthL w w.heap.size v xs) : St w (fun w' => EarthL w' w'.heap.size v xs) := fun w' hb => (h.below hb).mono hb.size
set_option maxRecDepth 100000 in
set_option maxHeartbeats 4000000 in
theorem walk_main (ao : Option Addr) (n cap : Nat) (w : World) (hn : n ≤ 65536) (hcode : Code w w.heap.size ao n) :
    Calls Try.prog 8 #[.slice ao n cap] w fun e w' => e = .returned (.bool true) ∧ Below w.heap.size w w' := by
  have C0 : CodeArg w w.heap.size (.slice ao n cap) := ⟨Nat.le_refl _, ao, n, cap, rfl, hn, hcode⟩
  clear hcode
  have hni : (n : Int) ≤ 65536 := by omega
  have sb0 := St.chain w
  have sc0 := St.code C0
  clear C0
  go_enter Try.func8, Try.ntmps8
  go_wp2_with fail
  refine (vBig_no n cap ao w hni).mono ?_
  rintro e w1 ⟨rfl, hw1⟩
  obtain rfl := hw1.symm
  go_wp2_with fail
  refine (drawFt w _ _ sc0.now).mono ?_
  rintro e w2 ⟨v1, xs, D, rfl, hbD, hD1⟩
  have sb_2 := sb0.step hD1.below
  have sc_2 := sc0.step hD1.below
  clear sb0 sc0
  have s13 := St.er hD1.lst
  obtain ⟨a1, c1, rfl⟩ := hD1.lst.form
  have hz1 : szsEarth xs ≤ 1048576 := mdl_sz hD1.len
  have hw1 : ∀ s ∈ xs, wfEarth s := fun s hs => (hD1.bd s hs).wf
  have hm1 : xs.length ≤ 6 := hD1.len
  clear hD1
  have hID : I64 D := by unfold I64; omega
  go_wp2_with fail
  refine (implFt xs _ D w2 _ s13.now (Nat.le_refl _) hz1 hw1 hID).mono ?_
  rintro e w4 ⟨rfl, hb4⟩
  have sb_4 := sb_2.step hb4
  have sc_4 := sc_2.step hb4
  have s1_4 := s13.step hb4
  clear sb_2 sc_2 s13 hb4
  go_wp2_with fail
  refine (specFt xs _ D w4 _ s1_4.now (Nat.le_refl _) hz1 hw1 hID).mono ?_
  rintro e w5 ⟨rfl, hb5⟩
  have sb_5 := sb_4.step hb5
  have sc_5 := sc_4.step hb5
  have s1_5 := s1_4.step hb5
  clear sb_4 sc_4 s1_4 hb5
  have HT := Lib.hid (fun h => trav_facts (xs := xs) (D := D) h)
  have HNX := Lib.hid (fun h h2 => next_facts (xs := xs) (D := D) h h2)
  have HFB := Lib.hid (fun h => ft_bd (xs := xs) (D := D) h)
  have CFi := Lib.hid (fun v w' (h : EarthL w' w'.heap.size v xs) => implFi xs v D w' _ h (Nat.le_refl _) hz1 hw1 hID)
  have CSi := Lib.hid (fun v w' (h : EarthL w' w'.heap.size v xs) => specFi xs v D w' _ h (Nat.le_refl _) hz1 hw1 hID)
  generalize hn1 : numFt xs D = n1 at *
  generalize hd1 : denFt xs D = d1 at *
  generalize hk1 : okFi xs D = k1 at *
  generalize layFi xs D = la at *
  clear hn1 hd1 hk1
  go_wp2_with fail
  refine (implIsM xs _ w5 _ s1_5.now (Nat.le_refl _) hz1 hw1).mono ?_
  rintro e w6 ⟨rfl, hb6⟩
  have sb_6 := sb_5.step hb6
  have sc_6 := sc_5.step hb6
  have s1_6 := s1_5.step hb6
  clear sb_5 sc_5 s1_5 hb6
  go_wp2_with fail
  refine (specIsM xs _ w6 _ s1_6.now (Nat.le_refl _) hz1 hw1).mono ?_
  rintro e w7 ⟨rfl, hb7⟩
  have sb_7 := sb_6.step hb7
  have sc_7 := sc_6.step hb7
  have s1_7 := s1_6.step hb7
  clear sb_6 sc_6 s1_6 hb7
  generalize goodE xs = gg at *
  go_wp2_with fail
  refine (CFi.out _ w7 s1_7.now).mono ?_
  rintro e w8 ⟨rfl, hb8⟩
  have sb_8 := sb_7.step hb8
  have sc_8 := sc_7.step hb8
  have s1_8 := s1_7.step hb8
  clear sb_7 sc_7 s1_7 hb8
  go_wp2_with fail
  refine (CSi.out _ w8 s1_8.now).mono ?_
  rintro e w9 ⟨rfl, hb9⟩
  have sb_9 := sb_8.step hb9
  have sc_9 := sc_8.step hb9
  have s1_9 := s1_8.step hb9
  clear sb_8 sc_8 s1_8 hb9
  clear CFi CSi
  go_upto_if 109 with fail
  go_cut [15, 16, 17, 18, 19, 20, 21] from 110 to 170 (fun _ _ _ _ _ _ _ wx => Below w9.heap.size w9 wx)
  case first =>
    have cb10 := St.chain w9
    cases k1 with
    | false =>
      go_wp2
      go_meet
      exact cb10.now
    | true =>
      obtain ⟨⟨nb0, nb1⟩, db0, db1⟩ := HFB.out rfl
      have HT2 := Lib.hid (HT.out rfl)
      have HNX2 := Lib.hid (HNX.out rfl)
      clear HFB HT HNX
      have CV := Lib.hid (fun v w' (k : Nat) (hk : k < xs.length) (h : EarthL w' w'.heap.size v xs) => implVi xs v (k : Int) D w' _ h (Nat.le_refl _) hz1 hw1 (by unfold I64; omega) hID)
      have HS1 := Lib.hid s1_9
      clear s1_9
      go_wp2_with fail
      go_loopw [15] (fun i wr => ∃ k : Nat, k ≤ xs.length ∧ i = .int .i64 k ∧ Below w9.heap.size w9 wr) (fun i _ => xs.length - (intOf i).toNat)
      case atStart => exact ⟨0, Nat.zero_le _, rfl, Below.refl _ _⟩
      case round =>
        obtain ⟨k, hk1, rfl, hbl⟩ := hrel
        by_cases hlt : k < xs.length
        case pos =>
          obtain ⟨hv, hn, hl⟩ := HT2.out k hlt
          have C1 := CV.out _ wr k hlt ((HS1.out.step hbl).now)
          rw [hv] at C1
          obtain ⟨⟨ab0, ab1⟩, bb0, bb1⟩ := vi_bd hv
          clear hv
          generalize numVi xs (k : Int) D = a at *
          generalize denVi xs (k : Int) D = b at *
          have m1 := mul_bdE (A := 22500000000) (C := 312500000) ab0 ab1 (show 0 ≤ d1 by omega) db1
          have m2 := mul_bdE (A := 22500000000) (C := 312500000) nb0 nb1 (show 0 ≤ b by omega) bb1
          have t1 : IntKind.i64.wrap (a * d1) = a * d1 := IntWalk.i64_in _ (by omega)
          have t2 : IntKind.i64.wrap (n1 * b) = n1 * b := IntWalk.i64_in _ (by omega)
          have C1 := Lib.hid C1
          have HB := Lib.hid hbl
          have mp1 : (k : Int) < (xs.length : Int) := by omega
          clear m1 m2 HT2 CV HNX2 HS1
          by_cases hla : (k : Int) = la
          · obtain ⟨e1, e2⟩ := hl hla
            have g0 : ((k : Int) == la) = true := by simpa using hla
            subst e1 e2
            clear hl hla
            go_wp2_with fail
            refine C1.out.mono ?_
            rintro e wA ⟨rfl, hA⟩
            have qA := HB.out.trans (hA.mono HB.out.size)
            go_wp2
            go_roundw
            case rel => exact ⟨k + 1, by omega, by go_num, qA⟩
            case measure => simp [intOf]; omega
          · have g0 : ((k : Int) == la) = false := by simpa using hla
            clear hl
            go_wp2_with fail
            refine C1.out.mono ?_
            rintro e wA ⟨rfl, hA⟩
            have qA := HB.out.trans (hA.mono HB.out.size)
            go_wp2
            go_roundw
            case rel => exact ⟨k + 1, by omega, by go_num, qA⟩
            case measure => simp [intOf]; omega
        have hge : ¬ (k : Int) < (xs.length : Int) := by omega
        have sb_y := sb_9.step hbl
        have sc_y := sc_9.step hbl
        have cb_y := cb10.step hbl
        clear HT2 CV
        by_cases hd2 : D < 2000
        case neg =>
          go_wp2
          go_meet
          exact cb_y.now
        obtain ⟨k2, n2⟩ := HNX2.out hd2
        have b2 := ft_bd k2
        have hI2 : I64 (D + 1) := by unfold I64; omega
        have C2 := implFt xs _ (D + 1) wr _ ((HS1.out.step hbl).now) (Nat.le_refl _) hz1 hw1 hI2
        rw [k2] at C2
        clear k2 HNX2
        generalize numFt xs (D + 1) = a at *
        generalize denFt xs (D + 1) = b at *
        obtain ⟨⟨ab0, ab1⟩, bb0, bb1⟩ := b2
        have m1 := mul_bdE (A := 22500000000) (C := 312500000) ab0 ab1 (show 0 ≤ d1 by omega) db1
        have m2 := mul_bdE (A := 22500000000) (C := 312500000) nb0 nb1 (show 0 ≤ b by omega) bb1
        have t1 : IntKind.i64.wrap (a * d1) = a * d1 := IntWalk.i64_in _ (by omega)
        have t2 : IntKind.i64.wrap (n1 * b) = n1 * b := IntWalk.i64_in _ (by omega)
        have t3 : IntKind.i64.wrap (D + 1) = D + 1 := IntWalk.i64_in _ (by omega)
        clear m1 m2
        have C2 := Lib.hid C2
        clear HS1
        go_wp2_with fail
        refine (C2.out).mono ?_
        rintro e w111 ⟨rfl, hb111⟩
        have sb_111 := sb_y.step hb111
        have sc_111 := sc_y.step hb111
        have cb_111 := cb_y.step hb111
        clear sb_y sc_y cb_y hb111
        go_wp2
        go_meet
        exact cb_111.now
  case rest =>
    have hb11 := hcut
    clear hcut
    obtain ⟨w11, hwc11⟩ : ∃ x, x = wc := ⟨wc, rfl⟩
    subst hwc11
    have sb_11 := sb_9.step hb11
    have sc_11 := sc_9.step hb11
    have s1_11 := s1_9.step hb11
    clear sb_9 sc_9 s1_9 hb11
    clear HT HNX HFB hz1 hw1 hID hbD hm1
    clear s1_11
    go_wp2_with fail
    refine (drawRe w11 _ _ sc_11.now).mono ?_
    rintro e w12 ⟨v2, ys, s, rfl, hbs, hD2⟩
    have sb_12 := sb_11.step hD2.below
    have sc_12 := sc_11.step hD2.below
    clear sb_11 sc_11
    have s213 := St.er hD2.lst
    obtain ⟨a2, c2, rfl⟩ := hD2.lst.form
    have hz2 : szsEarth ys ≤ 1048576 := mdl_sz hD2.len
    have hw2 : ∀ s ∈ ys, wfEarth s := fun s hs => (hD2.bd s hs).wf
    have hm2 : ys.length ≤ 6 := hD2.len
    clear hD2
    have hIs : I64 s := by unfold I64; omega
    go_wp2_with fail
    refine (implRe ys _ s w12 _ s213.now (Nat.le_refl _) hz2 hw2 hIs).mono ?_
    rintro e w14 ⟨rfl, hb14⟩
    have sb_14 := sb_12.step hb14
    have sc_14 := sc_12.step hb14
    have s2_14 := s213.step hb14
    clear sb_12 sc_12 s213 hb14
    go_wp2_with fail
    refine (specRe ys _ s w14 _ s2_14.now (Nat.le_refl _) hz2 hw2 hIs).mono ?_
    rintro e w15 ⟨rfl, hb15⟩
    have sb_15 := sb_14.step hb15
    have sc_15 := sc_14.step hb15
    have s2_15 := s2_14.step hb15
    clear sb_14 sc_14 s2_14 hb15
    have HR := Lib.hid (fun h => reach_facts (xs := ys) (s := s) h)
    generalize atRe ys s = far at *
    generalize okRe ys s = k2 at *
    go_upto_if 196 with fail
    go_cut [28, 29, 30, 31, 32, 33] from 197 to 231 (fun _ _ _ _ _ _ wx => Below w15.heap.size w15 wx)
    case first =>
      have cb16 := St.chain w15
      cases k2 with
      | false =>
        go_wp2
        go_meet
        exact cb16.now
      | true =>
        obtain ⟨⟨hs0, hs1⟩, ⟨hf0, hf1⟩, kf, nf, hnx⟩ := HR.out rfl
        clear HR
        have bf := ft_bd kf
        have hI2 : I64 far := by unfold I64; omega
        have C2 := implFt ys _ far w15 _ s2_15.now (Nat.le_refl _) hz2 hw2 hI2
        rw [kf] at C2
        clear kf
        generalize numFt ys far = a at *
        generalize denFt ys far = b at *
        obtain ⟨⟨ab0, ab1⟩, bb0, bb1⟩ := bf
        have m1 := mul_bdE (A := 100000) (C := 312500000) hs0 hs1 (show 0 ≤ b by omega) bb1
        have t1 : IntKind.i64.wrap (s * b) = s * b := IntWalk.i64_in _ (by omega)
        clear m1
        have C2 := Lib.hid C2
        go_wp2_with fail
        refine (C2.out).mono ?_
        rintro e w17 ⟨rfl, hb17⟩
        have sb_17 := sb_15.step hb17
        have sc_17 := sc_15.step hb17
        have s2_17 := s2_15.step hb17
        have cb_17 := cb16.step hb17
        clear sb_15 sc_15 s2_15 cb16 hb17
        clear C2
        by_cases hf2 : far < 2000
        case neg =>
          go_wp2
          go_meet
          exact cb_17.now
        obtain ⟨kg, ng⟩ := hnx hf2
        have bg := ft_bd kg
        have hI3 : I64 (far + 1) := by unfold I64; omega
        have C3 := implFt ys _ (far + 1) w17 _ s2_17.now (Nat.le_refl _) hz2 hw2 hI3
        rw [kg] at C3
        clear kg hnx
        generalize numFt ys (far + 1) = a2 at *
        generalize denFt ys (far + 1) = b2 at *
        obtain ⟨⟨ac0, ac1⟩, bc0, bc1⟩ := bg
        have m1 := mul_bdE (A := 100000) (C := 312500000) hs0 hs1 (show 0 ≤ b2 by omega) bc1
        have t2 : IntKind.i64.wrap (s * b2) = s * b2 := IntWalk.i64_in _ (by omega)
        have t3 : IntKind.i64.wrap (far + 1) = far + 1 := IntWalk.i64_in _ (by omega)
        clear m1
        have C3 := Lib.hid C3
        go_wp2_with fail
        refine (C3.out).mono ?_
        rintro e w18 ⟨rfl, hb18⟩
        have sb_18 := sb_17.step hb18
        have sc_18 := sc_17.step hb18
        have s2_18 := s2_17.step hb18
        have cb_18 := cb_17.step hb18
        clear sb_17 sc_17 s2_17 cb_17 hb18
        clear C3
        go_wp2
        go_meet
        exact cb_18.now
    case rest =>
      have hb17 := hcut
      clear hcut
      obtain ⟨w17, hwc17⟩ : ∃ x, x = wc := ⟨wc, rfl⟩
      subst hwc17
      have sb_17 := sb_15.step hb17
      have sc_17 := sc_15.step hb17
      have s2_17 := s2_15.step hb17
      clear sb_15 sc_15 s2_15 hb17
      clear HR hz2 hw2 hIs hbs hm2
      clear s2_17
      go_wp2_with fail
      refine (drawVi w17 _ _ sc_17.now).mono ?_
      rintro e w18 ⟨v3, zs, k, x, rfl, hbk, hbx, hD3⟩
      have sb_18 := sb_17.step hD3.below
      have sc_18 := sc_17.step hD3.below
      clear sb_17 sc_17
      have s319 := St.er hD3.lst
      obtain ⟨a3, c3, rfl⟩ := hD3.lst.form
      have hz3 : szsEarth zs ≤ 1048576 := mdl_sz hD3.len
      have hw3 : ∀ s ∈ zs, wfEarth s := fun s hs => (hD3.bd s hs).wf
      have hm3 : zs.length ≤ 6 := hD3.len
      clear hD3
      clear sc_18
      have hIk : I64 k := by unfold I64; omega
      have hIx : I64 x := by unfold I64; omega
      go_wp2_with fail
      refine (implVi zs _ k x w18 _ s319.now (Nat.le_refl _) hz3 hw3 hIk hIx).mono ?_
      rintro e w20 ⟨rfl, hb20⟩
      have sb_20 := sb_18.step hb20
      have s3_20 := s319.step hb20
      clear sb_18 s319 hb20
      go_wp2_with fail
      refine (specVi zs _ k x w20 _ s3_20.now (Nat.le_refl _) hz3 hw3 hIk hIx).mono ?_
      rintro e w21 ⟨rfl, hb21⟩
      have sb_21 := sb_20.step hb21
      have s3_21 := s3_20.step hb21
      clear sb_20 s3_20 hb21
      generalize numVi zs k x = nn at *
      generalize denVi zs k x = dd at *
      generalize okVi zs k x = kk at *
      go_wp2
      go_ret
      exact ⟨by first | rfl | exact ret_bool (by simp), sb_21.now⟩

set_option maxRecDepth 100000 in
theorem walk_all (v : Value) {H : Type} {enc : TypeId × Value → H} {base : Nat} {d : DataW H} {ps : List MemPlace} {w : World} (hval : Value.okWide Try.prog w .any base 32 v)
    (hd : DataW.Trod enc Try.prog w 0 (fun _ => true) true 32 v d ps) :
    Calls Try.prog 8 #[v] w fun e w' => e = .returned (.bool true) ∧ Below w.heap.size w w' := by
  obtain ⟨ao, n, cap, rfl, hn, hc⟩ := open_code Try.underlying32 Try.underlying5 (by kernel_rfl) hval hd
  by_cases h : n ≤ 65536
  · exact walk_main ao n cap w h hc
  · have hi : (65536 : Int) < n := by omega
    go_enter Try.func8, Try.ntmps8
    go_wp2_with fail
    refine (vBig_yes n cap ao _ hi).mono ?_
    rintro e w0 ⟨rfl, hw⟩
    obtain rfl := hw.symm
    go_wp2
    go_ret
    exact ⟨rfl, Below.refl _ _⟩

set_option maxRecDepth 100000 in
theorem contract (H : Type) (enc : TypeId × Value → H) (W : World) (base : Nat) (args : Array Value) (ds gs : List (DataW H)) (before : List MemPlace)
    (hval : ∀ (j : Nat) t v, Try.f8.params[j]? = some t → args[j]? = some v → Value.okWide Try.prog W .any base t v)
    (hW : DataW.Whole enc Try.prog Try.f8.params.toList Rows.fnTravelSpec.vars false W args.toList ds gs before) :
    Calls Try.prog 8 args W fun e W' => ∃ v, e = .returned v ∧ Rows.fnTravelSpec.post enc Try.prog Try.f8 false true false false W args v W' := by
  have hW' := hW
  obtain ⟨p, q, hA0, hV, rfl, hfz, hnd⟩ := hW
  have hA : DataW.TrodAll enc Try.prog W 0 (fun _ => true) true Try.f8.params.toList args.toList ds p := hA0
  rw [Try.params8] at hA hval
  obtain ⟨v0, vs0, d0, ds0, p0, q0, hargs, rfl, rfl, h0, r0⟩ := trodAll_cons hA
  obtain ⟨rfl, rfl, rfl⟩ := trodAll_nil r0
  obtain rfl : args = #[v0] := by cases args; simp_all
  refine lawPost rfl rfl Try.underlying4 (by kernel_rfl) (by kernel_rfl) hW' (fun hg => by subst hg; exact ⟨rfl, rfl, rfl⟩) ?_
  exact walk_all v0 (hval 0 32 v0 rfl rfl) h0

set_option maxRecDepth 100000 in
theorem lifted (os : Os) (started : os.Started) (H : Type) (enc : TypeId × Value → H) :
    ReturnsInHanded {} Try.checked os 8 .any (Rows.fnTravelSpec.pre6 enc Try.prog Try.f8 Rows.fnTravelRow.domain false) (Rows.fnTravelSpec.post enc Try.prog Try.f8 false true false false) := by
  refine returnsInHanded_of_change (C := Try.checked) (s := Rows.fnTravelSpec) own started (by kernel_rfl) Try.func8
    (ChangeSpec.witness6 (enc := enc) (C := Try.checked) (s := Rows.fnTravelSpec) false ⟨#[], #[.slice none 0 0], []⟩ 8 (by kernel_rfl) (by kernel_rfl) (by kernel_rfl) (by kernel_rfl)) ?_
  intro W base args ds gs before hval hW _ _
  exact contract H enc W base args ds gs before hval hW

set_option maxRecDepth 100000 in
theorem said : Rows.FnTravelSaid :=
  OpenClaim.holds_of_wide 8 Try.f8 rfl rfl rfl rfl rfl rfl rfl ⟨rfl, rfl, rfl, rfl, rfl⟩ rfl rfl rfl rfl rfl (by kernel_rfl) Try.func8 (by kernel_rfl)
    (of_decide_eq_true (by kernel_rfl)) (by unfold Func.isWrapper; first | (rw [if_pos (by decide +kernel)]; kernel_rfl) | (rw [if_neg (by decide +kernel)]; exact ⟨rfl, rfl⟩))
    (fun os started H enc _ => lifted os started H enc)
end Go.Proofs.Ytklilfbokpljkaa.fnTravel
