/- FnNetworks: for every code the law answers true; no condition. -/
import Derived.Test.YtjiaejempfhheaaDrV
import Derived.Test.YtjiaejempfhheaaPairS
import Derived.Deep.CutBlock
import Derived.Deep.CutRange
import Derived.Deep.DeepCutAuto
namespace Go.Proofs.Ytjiaejempfhheaa.fnNetworks
open Go.ChangeShapes Go.WideShapes Go.ChangeAt Go.RowKit Go.ChangeMaps Go.Sort
set_option linter.unusedSimpArgs false
set_option linter.unusedVariables false

theorem own : ownKnob Try.prog.godebug = none := by kernel_rfl

theorem pair_order (xs : List GStation) : (resPair xs).length ≤ 110 ∧ ∀ i, 0 < i → i < (resPair xs).length → ∃ a0 a1 a2 b0 b1 b2 : Int, (resPair xs)[i - 1]? = some [a0, a1, a2] ∧ (resPair xs)[i]? = some [b0, b1, b2] ∧ a2 ≤ b2 := by
  by_cases h : goodL xs = true
  · exact (pair_facts h).2
  · have e : resPair xs = [] := by unfold resPair; rw [if_neg h]
    rw [e]
    exact ⟨by simp, fun i _ h2 => by simp at h2⟩
theorem St.bx {w : World} {b : Nat} {cs : List Value} (h : Bx w b cs) : St w (fun w' => Bx w' b cs) := fun w' hb => h.below hb
theorem St.sta {w : World} {v : Value} {xs : List GStation} (h : StationL w w.heap.size v xs) : St w (fun w' => StationL w' w'.heap.size v xs) := fun w' hb => (h.below hb).mono hb.size
theorem St.ss {w : World} {L : Nat} {v : Value} {xss : List (List Int)} (h : SSO w L w.heap.size v xss) : St w (fun w' => SSL w' w'.heap.size v xss) := fun w' hb => (h.lst.below hb).mono hb.size
theorem good_wf {ys : List GStation} (h : goodL ys = true) : ∀ s ∈ ys, wfStation s := by
  intro s hs
  obtain ⟨k, hk⟩ := List.mem_iff_getElem?.1 hs
  have hg := goodL_at h hk
  have hb := goodS_bounds hg
  have hw := (goodS_yes hg).2.1
  unfold goodW at hw
  rw [Bool.and_eq_true] at hw
  have hz := of_decide_eq_true hw.1
  unfold wfStation I64
  omega
theorem unc_good {ys : List GStation} {u : Int} (h : okUnc ys u = true) : goodL ys = true := by
  unfold okUnc at h
  rw [Bool.and_eq_true] at h
  exact h.1
/-- Two rows of the table, at a world. -/
theorem ssl_row {w : World} {B : Nat} {b off n cap : Nat} {xss : List (List Int)} (h : SSL w B (.slice (some ⟨b, off, none⟩) n cap) xss) {k : Nat} {a0 a1 a2 : Int} (hk : xss[k]? = some [a0, a1, a2]) :
    ∃ b1 off1 cap1, w.cell? ⟨b, off + k, none⟩ = some (.slice (some ⟨b1, off1, none⟩) 3 cap1) ∧ w.cell? ⟨b1, off1 + 2, none⟩ = some (.int .i64 a2) := by
  obtain ⟨us, hl, ⟨ao, cap', e0, _, _, _, hc⟩, hi⟩ := h
  simp only [Value.slice.injEq] at e0
  obtain ⟨rfl, -, -⟩ := e0
  obtain ⟨u, hu⟩ := get_of_lt (l := us) (k := k) (by rw [hl]; exact (List.getElem?_eq_some_iff.1 hk).1)
  obtain ⟨b', off', e1, _, hcell⟩ := hc k u hu
  simp only [Option.some.injEq, Addr.mk.injEq, and_true] at e1
  obtain ⟨rfl, rfl⟩ := e1
  obtain ⟨ao1, cap1, e2, _, _, _, h1⟩ := hi k u _ hu hk
  obtain ⟨b1, off1, rfl, _, h2⟩ := h1 2 a2 rfl
  exact ⟨b1, off1, cap1, by rw [hcell, e2]; rfl, h2⟩
theorem ssl_some {w : World} {B : Nat} {ao : Option Addr} {n cap : Nat} {xss : List (List Int)} (h : SSL w B (.slice ao n cap) xss) (h0 : 0 < xss.length) : ∃ b off, ao = some ⟨b, off, none⟩ := by
  obtain ⟨us, hl, ⟨ao', cap', e0, _, _, _, hc⟩, hi⟩ := h
  simp only [Value.slice.injEq] at e0
  obtain ⟨rfl, -, -⟩ := e0
  obtain ⟨u, hu⟩ := get_of_lt (l := us) (k := 0) (by rw [hl]; exact h0)
  obtain ⟨b', off', e1, _, hcell⟩ := hc 0 u hu
  exact ⟨b', off', e1⟩
set_option maxRecDepth 100000 in
set_option maxHeartbeats 8000000 in
theorem walk_main (ao : Option Addr) (n cap : Nat) (w : World) (hn : n ≤ 65536) (hcode : Code w w.heap.size ao n) :
    Calls Try.prog 4 #[.slice ao n cap] w fun e w' => e = .returned (.bool true) ∧ Below w.heap.size w w' := by
  have C0 : CodeArg w w.heap.size (.slice ao n cap) := ⟨Nat.le_refl _, ao, n, cap, rfl, hn, hcode⟩
  clear hcode
  have hni : (n : Int) ≤ 65536 := by omega
  have sb0 := St.chain w
  have sc0 := St.code C0
  clear C0
  go_enter Try.func4, Try.ntmps4
  go_wp2_with fail
  refine (rBig_no n cap ao w hni).mono ?_
  rintro e w1 ⟨rfl, hw1⟩
  obtain rfl := hw1.symm
  go_wp2_with fail
  refine (drawRec w _ _ sc0.now).mono ?_
  rintro e w2 ⟨v1, xs, id, g, u, rfl, hid, hgn, hun, hl1, hb1, hs1, hb2⟩
  have sb_2 := sb0.step hb2
  have sc_2 := sc0.step hb2
  clear sb0 sc0 hb2
  have s13 := St.sta hs1
  obtain ⟨a1, c1, rfl⟩ := hs1.form
  have hz1 : szsStation xs ≤ 1048576 := by have := bds_sz hb1; omega
  have hw1 : ∀ s ∈ xs, wfStation s := fun s hs => (hb1 s hs).wf
  clear hs1
  clear hb1
  have hIi : I64 id := by unfold I64; omega
  have hIg : I64 g := by unfold I64; omega
  have hIu : I64 u := by unfold I64; omega
  go_wp2_with fail
  refine (implRec xs _ id g u w2 _ s13.now (Nat.le_refl _) hz1 hw1 hIi hIg hIu).mono ?_
  rintro e w4 ⟨v2, rfl, ho2, hb4⟩
  have sb_4 := sb_2.step hb4
  have sc_4 := sc_2.step hb4
  have s1_4 := s13.step hb4
  clear sb_2 sc_2 s13 hb4
  have sn5 := St.sta ho2.lst
  obtain ⟨a2, c2, rfl⟩ := ho2.form
  clear ho2
  go_wp2_with fail
  refine (specRec xs _ id g u w4 _ s1_4.now (Nat.le_refl _) hz1 hw1 hIi hIg hIu).mono ?_
  rintro e w6 ⟨v3, rfl, ho3, hb6⟩
  have sb_6 := sb_4.step hb6
  have sc_6 := sc_4.step hb6
  have s1_6 := s1_4.step hb6
  have sn_6 := sn5.step hb6
  clear sb_4 sc_4 s1_4 sn5 hb6
  have so7 := St.sta ho3.lst
  clear ho3
  clear s1_6
  have hz2 := resRec_len xs id g u hz1
  clear hz1 hw1 hIi hIg hid hgn hun
  go_wp2_with fail
  refine (rStations_same _ _ v3 w6 _ sn_6.now so7.now (Nat.le_refl _)).mono ?_
  rintro e w8 ⟨rfl, hb8⟩
  have sb_8 := sb_6.step hb8
  have sc_8 := sc_6.step hb8
  have sn_8 := sn_6.step hb8
  have so_8 := so7.step hb8
  clear sb_6 sc_6 sn_6 so7 hb8
  clear so_8
  go_upto_if 69 with fail
  go_cut [8, 10] from 44 to 82 (fun _ _ wx => Below w8.heap.size w8 wx)
  case first =>
    have cb9 := St.chain w8
    cases hk : okRec xs id g u with
    | false =>
      go_wp2
      go_meet
      exact cb9.now
    | true =>
      obtain ⟨hok, hno⟩ := rec_unc hk
      have hw2 := good_wf (unc_good hok)
      generalize resRec xs id g u = rr at *
      have HA := Lib.hid (fun v w' (h : StationL w' w'.heap.size v rr) => implUnc rr v u w' _ h (Nat.le_refl _) hz2 hw2 hIu)
      rw [hok] at HA
      clear hok hw2 hz2 hIu hk
      go_wp2_with fail
      refine (HA.out _ w8 sn_8.now).mono ?_
      rintro e w10 ⟨v4, rfl, ho4, hb10⟩
      have sb_10 := sb_8.step hb10
      have sc_10 := sc_8.step hb10
      have sn_10 := sn_8.step hb10
      have cb_10 := cb9.step hb10
      clear sb_8 sc_8 sn_8 cb9 hb10
      have so11 := St.own ho4
      clear ho4 HA
      go_wp2_with fail
      refine (rHas_no _ id v4 w10 _ so11.now (Nat.le_refl _) hno).mono ?_
      rintro e w12 ⟨rfl, hb12⟩
      have sb_12 := sb_10.step hb12
      have sc_12 := sc_10.step hb12
      have sn_12 := sn_10.step hb12
      have cb_12 := cb_10.step hb12
      have so_12 := so11.step hb12
      clear sb_10 sc_10 sn_10 cb_10 so11 hb12
      clear hno
      go_wp2
      go_meet
      exact cb_12.now
  case rest =>
    have hb10 := hcut
    clear hcut
    obtain ⟨w10, hwc10⟩ : ∃ x, x = wc := ⟨wc, rfl⟩
    subst hwc10
    have sb_10 := sb_8.step hb10
    have sc_10 := sc_8.step hb10
    have sn_10 := sn_8.step hb10
    clear sb_8 sc_8 sn_8 hb10
    clear sn_10
    clear hz2 hIu
    go_wp2_with fail
    refine (drawPairDistances w10 _ _ sc_10.now).mono ?_
    rintro e w11 ⟨v10, ls, rfl, hl10, hb10, hs10, hb11⟩
    have sb_11 := sb_10.step hb11
    have sc_11 := sc_10.step hb11
    clear sb_10 sc_10 hb11
    have s1012 := St.sta hs10
    obtain ⟨a10, c10, rfl⟩ := hs10.form
    have hz10 : szsStation ls ≤ 1048576 := by have := bds_sz hb10; omega
    have hw10 : ∀ s ∈ ls, wfStation s := fun s hs => (hb10 s hs).wf
    clear hs10
    clear hb10
    go_wp2_with fail
    refine (implPair ls _ w11 _ s1012.now (Nat.le_refl _) hz10 hw10).mono ?_
    rintro e w13 ⟨v11, rfl, ho11, hb13⟩
    have sb_13 := sb_11.step hb13
    have sc_13 := sc_11.step hb13
    have s10_13 := s1012.step hb13
    clear sb_11 sc_11 s1012 hb13
    have sp14 := St.ss ho11
    obtain ⟨a11, c11, rfl⟩ := ho11.form
    clear ho11
    go_wp2_with fail
    refine (specPair ls _ w13 _ s10_13.now (Nat.le_refl _) hz10 hw10).mono ?_
    rintro e w15 ⟨v12, rfl, ho12, hb15⟩
    have sb_15 := sb_13.step hb15
    have sc_15 := sc_13.step hb15
    have s10_15 := s10_13.step hb15
    have sp_15 := sp14.step hb15
    clear sb_13 sc_13 s10_13 sp14 hb15
    have sq16 := St.ss ho12
    clear ho12
    clear s10_15
    have HPF := Lib.hid (pair_facts (xs := ls))
    have HPO := Lib.hid (pair_order ls)
    clear hz10 hw10
    generalize resPair ls = rp at *
    go_upto_region 15 with fail
    go_cut [15, 17, 118] from 85 to 118 (fun _ _ c wx => c = .bool false ∧ Below w15.heap.size w15 wx)
    case first =>
      have cb17 := St.chain w15
      cases hk2 : goodL ls with
      | false =>
        go_wp2_with fail
        refine (rTable_same _ _ v12 w15 _ sp_15.now sq16.now (Nat.le_refl _)).mono ?_
        rintro e w18 ⟨rfl, hb18⟩
        have sb_18 := sb_15.step hb18
        have sc_18 := sc_15.step hb18
        have sp_18 := sp_15.step hb18
        have sq_18 := sq16.step hb18
        have cb_18 := cb17.step hb18
        clear sb_15 sc_15 sp_15 sq16 cb17 hb18
        go_wp2
        go_meet
        exact ⟨rfl, cb_18.now⟩
      | true =>
        obtain ⟨hpe, hpl, -⟩ := HPF.out hk2
        go_wp2_with fail
        refine (rTable_same _ _ v12 w15 _ sp_15.now sq16.now (Nat.le_refl _)).mono ?_
        rintro e w18 ⟨rfl, hb18⟩
        have sb_18 := sb_15.step hb18
        have sc_18 := sc_15.step hb18
        have sp_18 := sp_15.step hb18
        have sq_18 := sq16.step hb18
        have cb_18 := cb17.step hb18
        clear sb_15 sc_15 sp_15 sq16 cb17 hb18
        have t2 : IntKind.i64.wrap ((ls.length : Int) * ((ls.length : Int) - 1)) = (ls.length : Int) * ((ls.length : Int) - 1) := IntWalk.i64_in _ (by omega)
        have t1 : IntKind.i64.wrap (2 * (rp.length : Int)) = (ls.length : Int) * ((ls.length : Int) - 1) := by rw [hpe]; exact t2
        have t3 : IntKind.i64.wrap ((ls.length : Int) - 1) = (ls.length : Int) - 1 := IntWalk.i64_in _ (by omega)
        clear hpe
        go_wp2
        go_meet
        exact ⟨rfl, cb_18.now⟩
    case rest =>
      obtain ⟨rfl, hb18⟩ := hcut
      obtain ⟨w18, hwc18⟩ : ∃ x, x = wc := ⟨wc, rfl⟩
      subst hwc18
      have sb_18 := sb_15.step hb18
      have sc_18 := sc_15.step hb18
      have sp_18 := sp_15.step hb18
      have sq_18 := sq16.step hb18
      clear sb_15 sc_15 sp_15 sq16 hb18
      clear sq_18
      clear HPF
      obtain ⟨hpl, hps⟩ := HPO.out
      have hpl2 : (rp.length : Int) ≤ 110 := by omega
      have HPS := Lib.hid hps
      have HSP := Lib.hid sp_18
      clear hps HPO
      clear sp_18
      go_wp2
      go_loopw [18] (fun i wr => ∃ k : Nat, 1 ≤ k ∧ (k ≤ rp.length ∨ k = 1) ∧ i = .int .i64 k ∧ Below w18.heap.size w18 wr) (fun i _ => rp.length - (intOf i).toNat)
      case atStart => exact ⟨1, Nat.le_refl _, Or.inr rfl, rfl, Below.refl _ _⟩
      case round =>
        obtain ⟨k, hk1, hk2, rfl, hbl⟩ := hrel
        by_cases hlt : k < rp.length
        case pos =>
          obtain ⟨x0, x1, x2, y0, y1, y2, e1, e2, hle⟩ := HPS.out k (by omega) hlt
          have hS := (HSP.out.step hbl).now
          obtain ⟨b, off, rfl⟩ := ssl_some hS (by omega)
          obtain ⟨b1, off1, cap1, f1, f2⟩ := ssl_row hS e1
          obtain ⟨b2, off2, cap2, f3, f4⟩ := ssl_row hS e2
          have mp2 : (0 : Int) ≤ (k : Int) - 1 := by omega
          have mp3 : (k : Int) - 1 < (rp.length : Int) := by omega
          have mp4 : ((k : Int) - 1).toNat = k - 1 := by omega
          have mp5 : IntKind.i64.wrap ((k : Int) - 1) = (k : Int) - 1 := IntWalk.i64_in _ (by omega)
          have mp6 : (k : Int) < (rp.length : Int) := by omega
          have mp7 : (0 : Int) ≤ (k : Int) := by omega
          have hng : ¬ y2 < x2 := by omega
          clear e1 e2 hS hle
          go_wp2
          go_quiet (fail)
          go_wp2
          go_roundw
          case rel => exact ⟨k + 1, by omega, by omega, by go_num, drewN_b hbl _⟩
          case measure => simp [intOf]; omega
        have hge : ¬ (k : Int) < (rp.length : Int) := by omega
        have sb_y := sb_18.step hbl
        have sc_y := sc_18.step hbl
        clear HPS HSP hbl
        go_wp2_with fail
        refine (drawGap wr _ _ sc_y.now).mono ?_
        rintro e w119 ⟨v20, us, x, y, rfl, hx, hy, hl20, hb20, hs20, hb119⟩
        have sb_119 := sb_y.step hb119
        have sc_119 := sc_y.step hb119
        clear sb_y sc_y hb119
        have s20120 := St.sta hs20
        obtain ⟨a20, c20, rfl⟩ := hs20.form
        have hz20 : szsStation us ≤ 1048576 := by have := bds_sz hb20; omega
        have hw20 : ∀ s ∈ us, wfStation s := fun s hs => (hb20 s hs).wf
        clear hs20
        have hIx : I64 x := by unfold I64; omega
        have hIy : I64 y := by unfold I64; omega
        go_wp2_with fail
        refine (implGap us _ x y w119 _ s20120.now (Nat.le_refl _) hz20 hw20 hIx hIy).mono ?_
        rintro e w121 ⟨rfl, hb121⟩
        have sb_121 := sb_119.step hb121
        have sc_121 := sc_119.step hb121
        have s20_121 := s20120.step hb121
        clear sb_119 sc_119 s20120 hb121
        go_wp2_with fail
        refine (specGap us _ x y w121 _ s20_121.now (Nat.le_refl _) hz20 hw20 hIx hIy).mono ?_
        rintro e w122 ⟨rfl, hb122⟩
        have sb_122 := sb_121.step hb122
        have sc_122 := sc_121.step hb122
        have s20_122 := s20_121.step hb122
        clear sb_121 sc_121 s20_121 hb122
        have HGP := Lib.hid (gap_facts (xs := us) (x := x) (y := y))
        have HBD := Lib.hid hb20
        clear hz20 hw20 hIx hIy hb20
        generalize numGap us x y = q at *
        go_upto_block 2 with fail
        go_cut [23, 25] from 139 to 209 (fun _ _ wx => Below w122.heap.size w122 wx)
        case first =>
          have cb123 := St.chain w122
          cases hk3 : okGap us x y with
          | false =>
            by_cases he : (0 : Int) < (us.length : Int)
            · go_wp2_with fail
              go_loopw [26] (fun i wr => i = .int .i64 0 ∧ Below w122.heap.size w122 wr) (fun _ _ => 0)
              case atStart => exact ⟨rfl, Below.refl _ _⟩
              case round =>
                obtain ⟨rfl, hbl⟩ := hrel
                go_wp2
                go_meet
                exact hbl
            · go_wp2_with fail
              go_loopw [26] (fun i wr => i = .int .i64 0 ∧ Below w122.heap.size w122 wr) (fun _ _ => 0)
              case atStart => exact ⟨rfl, Below.refl _ _⟩
              case round =>
                obtain ⟨rfl, hbl⟩ := hrel
                go_wp2
                go_meet
                exact hbl
          | true =>
            obtain ⟨hq, hgap⟩ := HGP.out hk3
            have HGA := Lib.hid hgap
            have HUS := Lib.hid s20_122
            clear HGP hgap
            go_wp2_with fail
            go_loopw [26] (fun i wr => ∃ k : Nat, k ≤ us.length ∧ i = .int .i64 k ∧ Below w122.heap.size w122 wr) (fun i _ => us.length - (intOf i).toNat)
            case atStart => exact ⟨0, Nat.zero_le _, rfl, Below.refl _ _⟩
            case round =>
              obtain ⟨k, hk, rfl, hbl⟩ := hrel
              by_cases hlt : k < us.length
              case pos =>
                obtain ⟨s, hs⟩ := get_of_lt hlt
                obtain ⟨hg0, hg2⟩ := HGA.out s (List.mem_of_getElem? hs)
                have hbd := HBD.out s (List.mem_of_getElem? hs)
                obtain ⟨ao9, cap9, hv9, _, _, _, hc9⟩ := (HUS.out.step hbl).now
                simp only [Value.slice.injEq] at hv9
                obtain ⟨rfl, -, rfl⟩ := hv9
                obtain ⟨b, off, rfl, hb9, hcell⟩ := hc9 k s hs
                have c0 : wr.cell? ⟨b, off + k * 8, none⟩ = some (.int .i64 s.pId) := hcell 0 _ rfl
                have c1 : wr.cell? ⟨b, off + k * 8 + 1, none⟩ = some (.string s.pName) := hcell 1 _ rfl
                have c2 : wr.cell? ⟨b, off + k * 8 + 2, none⟩ = some (.int .i64 s.pX) := hcell 2 _ rfl
                have c3 : wr.cell? ⟨b, off + k * 8 + 3, none⟩ = some (.int .i64 s.pY) := hcell 3 _ rfl
                have c4 : wr.cell? ⟨b, off + k * 8 + 4, none⟩ = some (.int .i64 s.pGain) := hcell 4 _ rfl
                have c5 : wr.cell? ⟨b, off + k * 8 + 5, none⟩ = some (.int .i64 s.pLow) := hcell 5 _ rfl
                have c6 : wr.cell? ⟨b, off + k * 8 + 6, none⟩ = some (.int .i64 s.pHigh) := hcell 6 _ rfl
                have c7 : wr.cell? ⟨b, off + k * 8 + 7, none⟩ = some (.int .i64 s.pUntil) := hcell 7 _ rfl
                have hi0 : (0 : Int) ≤ (k : Int) := by omega
                have hi1 : (k : Int) < (us.length : Int) := by omega
                clear hc9 hcell hs
                unfold BdS at hbd
                by_cases q0 : q = 0
                · subst q0
                  by_cases x1 : x < s.pX
                  · have y1 : ¬ y ≤ s.pY := fun h => hg0 ⟨rfl, x1, h⟩
                    clear hg0 hg2 hbd
                    go_wp2
                    go_roundw
                    case rel => exact ⟨k + 1, by omega, by go_num, hbl.alloc hbl.size _⟩
                    case measure => simp [intOf]; omega
                  · clear hg0 hg2 hbd
                    go_wp2
                    go_roundw
                    case rel => exact ⟨k + 1, by omega, by go_num, hbl.alloc hbl.size _⟩
                    case measure => simp [intOf]; omega
                · have q01 : (q == 0) = false := by simpa using q0
                  by_cases q2 : q = 2
                  · subst q2
                    by_cases x1 : s.pX < x
                    · have y1 : ¬ s.pY ≤ y := fun h => hg2 ⟨rfl, x1, h⟩
                      clear hg0 hg2 hbd q0 q01
                      go_wp2
                      go_roundw
                      case rel => exact ⟨k + 1, by omega, by go_num, hbl.alloc hbl.size _⟩
                      case measure => simp [intOf]; omega
                    · clear hg0 hg2 hbd q0 q01
                      go_wp2
                      go_roundw
                      case rel => exact ⟨k + 1, by omega, by go_num, hbl.alloc hbl.size _⟩
                      case measure => simp [intOf]; omega
                  · have q21 : (q == 2) = false := by simpa using q2
                    clear hg0 hg2 hbd
                    go_wp2
                    go_roundw
                    case rel => exact ⟨k + 1, by omega, by go_num, hbl.alloc hbl.size _⟩
                    case measure => simp [intOf]; omega
              obtain rfl : k = us.length := by omega
              go_wp2
              go_meet
              exact hbl
        case rest =>
          have hb124 := hcut
          clear hcut
          obtain ⟨w124, hwc124⟩ : ∃ x, x = wc := ⟨wc, rfl⟩
          subst hwc124
          have sb_124 := sb_122.step hb124
          have sc_124 := sc_122.step hb124
          have s20_124 := s20_122.step hb124
          clear sb_122 sc_122 s20_122 hb124
          clear s20_124
          clear HGP HBD
          go_wp2_with fail
          refine (drawUnc w124 _ _ sc_124.now).mono ?_
          rintro e w125 ⟨v30, vs, f, rfl, hf, hl30, hb30, hs30, hb125⟩
          have sb_125 := sb_124.step hb125
          have sc_125 := sc_124.step hb125
          clear sb_124 sc_124 hb125
          have s30126 := St.sta hs30
          obtain ⟨a30, c30, rfl⟩ := hs30.form
          have hz30 : szsStation vs ≤ 1048576 := by have := bds_sz hb30; omega
          have hw30 : ∀ s ∈ vs, wfStation s := fun s hs => (hb30 s hs).wf
          clear hs30
          clear hb30
          have hIf : I64 f := by unfold I64; omega
          go_wp2_with fail
          refine (implUnc vs _ f w125 _ s30126.now (Nat.le_refl _) hz30 hw30 hIf).mono ?_
          rintro e w127 ⟨v31, rfl, ho31, hb127⟩
          have sb_127 := sb_125.step hb127
          have sc_127 := sc_125.step hb127
          have s30_127 := s30126.step hb127
          clear sb_125 sc_125 s30126 hb127
          have sp128 := St.own ho31
          clear ho31
          go_wp2_with fail
          refine (specUnc vs _ f w127 _ s30_127.now (Nat.le_refl _) hz30 hw30 hIf).mono ?_
          rintro e w129 ⟨v32, rfl, ho32, hb129⟩
          have sb_129 := sb_127.step hb129
          have sc_129 := sc_127.step hb129
          have s30_129 := s30_127.step hb129
          have sp_129 := sp128.step hb129
          clear sb_127 sc_127 s30_127 sp128 hb129
          have sq130 := St.own ho32
          clear ho32
          clear s30_129
          generalize okUnc vs f = kf
          generalize resUnc vs f = rf at *
          clear hz30 hw30 hIf hf
          go_wp2_with fail
          refine (drawIsSt w129 _ _ sc_129.now).mono ?_
          rintro e w131 ⟨s, rfl, hbs, hb131⟩
          have sb_131 := sb_129.step hb131
          have sc_131 := sc_129.step hb131
          have sp_131 := sp_129.step hb131
          have sq_131 := sq130.step hb131
          clear sb_129 sc_129 sp_129 sq130 hb131
          have hws := hbs.wf
          have hzs : sz1Station s ≤ 1048576 := by have := hbs.sz; omega
          clear hbs
          have N132 := (Below.refl w131.heap.size w131).alloc (Nat.le_refl _) (.cells #[.int .i64 s.pId, .string s.pName, .int .i64 s.pX, .int .i64 s.pY, .int .i64 s.pGain, .int .i64 s.pLow, .int .i64 s.pHigh, .int .i64 s.pUntil] 36)
          have bs132 := St.bx (Bx.new w131 [.int .i64 s.pId, .string s.pName, .int .i64 s.pX, .int .i64 s.pY, .int .i64 s.pGain, .int .i64 s.pLow, .int .i64 s.pHigh, .int .i64 s.pUntil] 36)
          have sb_132 := sb_131.step N132
          have sc_132 := sc_131.step N132
          have sp_132 := sp_131.step N132
          have sq_132 := sq_131.step N132
          clear sb_131 sc_131 sp_131 sq_131 N132
          obtain ⟨W, hW⟩ : ∃ W, (w131.alloc (.cells #[.int .i64 s.pId, .string s.pName, .int .i64 s.pX, .int .i64 s.pY, .int .i64 s.pGain, .int .i64 s.pLow, .int .i64 s.pHigh, .int .i64 s.pUntil] 36)) = W := ⟨_, rfl⟩
          rw [hW] at sb_132 sc_132 sp_132 sq_132 bs132
          have qbs0_1 := (bs132.now).2 0 _ rfl
          have qbs1_2 := (bs132.now).2 1 _ rfl
          have qbs2_3 := (bs132.now).2 2 _ rfl
          have qbs3_4 := (bs132.now).2 3 _ rfl
          have qbs4_5 := (bs132.now).2 4 _ rfl
          have qbs5_6 := (bs132.now).2 5 _ rfl
          have qbs6_7 := (bs132.now).2 6 _ rfl
          have qbs7_8 := (bs132.now).2 7 _ rfl
          have ci := fun d os => Calls.regrown_of (w := W) (d := d) (os := os) (rInts_same rf v31 v32 _ _ ((sp_132.step (below_regrown W d os)).now) ((sq_132.step (below_regrown W d os)).now) (Nat.le_refl _))
          have ca := fun d os => Calls.regrown_of (w := W) (d := d) (os := os) (implIsSt s _ (grow (redrawn W d) os) _ rfl (Nat.le_refl _) hzs hws)
          have cb := fun d os => Calls.regrown_of (w := W) (d := d) (os := os) (specIsSt s _ (grow (redrawn W d) os) _ rfl (Nat.le_refl _) hzs hws)
          have r0 := cell_regrown qbs0_1
          have r1 := cell_regrown qbs1_2
          have r2 := cell_regrown qbs2_3
          have r3 := cell_regrown qbs3_4
          have r4 := cell_regrown qbs4_5
          have r5 := cell_regrown qbs5_6
          have r6 := cell_regrown qbs6_7
          have r7 := cell_regrown qbs7_8
          generalize goodS s = gs at *
          clear hws hzs
          go_wp2
          clear hW
          refine wp_region_quiet_below (by kernel_rfl) (by kernel_rfl) ?_
          repeat (go_big_quiet_step (first | with_reducible exact ci _ _ | with_reducible exact ca _ _ | with_reducible exact cb _ _))
          refine wpQuiet_nil ?_
          intro _ hw'
          obtain ⟨⟨dq, osq⟩, hw''⟩ := hw'
          subst hw''
          have hbq := below_regrown (W) dq osq
          generalize grow (redrawn (W) dq) osq = wq at *
          go_wp2
          go_ret
          exact ⟨ret_bool (by simp), (sb_132.step hbq).now⟩

set_option maxRecDepth 100000 in
theorem walk_all (v : Value) {H : Type} {enc : TypeId × Value → H} {base : Nat} {d : DataW H} {ps : List MemPlace} {w : World} (hval : Value.okWide Try.prog w .any base 22 v)
    (hd : DataW.Trod enc Try.prog w 0 (fun _ => true) true 22 v d ps) :
    Calls Try.prog 4 #[v] w fun e w' => e = .returned (.bool true) ∧ Below w.heap.size w w' := by
  obtain ⟨ao, n, cap, rfl, hn, hc⟩ := open_code Try.underlying22 Try.underlying5 (by kernel_rfl) hval hd
  by_cases h : n ≤ 65536
  · exact walk_main ao n cap w h hc
  · have hi : (65536 : Int) < n := by omega
    go_enter Try.func4, Try.ntmps4
    go_wp2_with fail
    refine (rBig_yes n cap ao _ hi).mono ?_
    rintro e w0 ⟨rfl, hw⟩
    obtain rfl := hw.symm
    go_wp2
    go_ret
    exact ⟨rfl, Below.refl _ _⟩

set_option maxRecDepth 100000 in
theorem contract (H : Type) (enc : TypeId × Value → H) (W : World) (base : Nat) (args : Array Value) (ds gs : List (DataW H)) (before : List MemPlace)
    (hval : ∀ (j : Nat) t v, Try.f4.params[j]? = some t → args[j]? = some v → Value.okWide Try.prog W .any base t v)
    (hW : DataW.Whole enc Try.prog Try.f4.params.toList Rows.fnNetworksSpec.vars false W args.toList ds gs before) :
    Calls Try.prog 4 args W fun e W' => ∃ v, e = .returned v ∧ Rows.fnNetworksSpec.post enc Try.prog Try.f4 false true false false W args v W' := by
  have hW' := hW
  obtain ⟨p, q, hA0, hV, rfl, hfz, hnd⟩ := hW
  have hA : DataW.TrodAll enc Try.prog W 0 (fun _ => true) true Try.f4.params.toList args.toList ds p := hA0
  rw [Try.params4] at hA hval
  obtain ⟨v0, vs0, d0, ds0, p0, q0, hargs, rfl, rfl, h0, r0⟩ := trodAll_cons hA
  obtain ⟨rfl, rfl, rfl⟩ := trodAll_nil r0
  obtain rfl : args = #[v0] := by cases args; simp_all
  refine lawPost rfl rfl Try.underlying4 (by kernel_rfl) (by kernel_rfl) hW' (fun hg => by subst hg; exact ⟨rfl, rfl, rfl⟩) ?_
  exact walk_all v0 (hval 0 22 v0 rfl rfl) h0

set_option maxRecDepth 100000 in
theorem lifted (os : Os) (started : os.Started) (H : Type) (enc : TypeId × Value → H) :
    ReturnsInHanded {} Try.checked os 4 .any (Rows.fnNetworksSpec.pre6 enc Try.prog Try.f4 Rows.fnNetworksRow.domain false) (Rows.fnNetworksSpec.post enc Try.prog Try.f4 false true false false) := by
  refine returnsInHanded_of_change (C := Try.checked) (s := Rows.fnNetworksSpec) own started (by kernel_rfl) Try.func4
    (ChangeSpec.witness6 (enc := enc) (C := Try.checked) (s := Rows.fnNetworksSpec) false ⟨#[], #[.slice none 0 0], []⟩ 8 (by kernel_rfl) (by kernel_rfl) (by kernel_rfl) (by kernel_rfl)) ?_
  intro W base args ds gs before hval hW _ _
  exact contract H enc W base args ds gs before hval hW

set_option maxRecDepth 100000 in
theorem said : Rows.FnNetworksSaid :=
  OpenClaim.holds_of_wide 4 Try.f4 rfl rfl rfl rfl rfl rfl rfl ⟨rfl, rfl, rfl, rfl, rfl⟩ rfl rfl rfl rfl rfl (by kernel_rfl) Try.func4 (by kernel_rfl)
    (of_decide_eq_true (by kernel_rfl)) (by unfold Func.isWrapper; first | (rw [if_pos (by decide +kernel)]; kernel_rfl) | (rw [if_neg (by decide +kernel)]; exact ⟨rfl, rfl⟩))
    (fun os started H enc _ => lifted os started H enc)
end Go.Proofs.Ytjiaejempfhheaa.fnNetworks
