/- FnOnsets: for every code the law answers true; no condition. -/
import Derived.Test.YtklilfbokpljkaaPdC
import Derived.Test.YtklilfbokpljkaaRp
import Derived.Test.YtklilfbokpljkaaRi
import Derived.Test.YtklilfbokpljkaaRt
import Derived.Test.YtklilfbokpljkaaPqG2
import Derived.Test.YtklilfbokpljkaaPqW
import Derived.Test.YtklilfbokpljkaaPqU
import Derived.Test.YtklilfbokpljkaaPqT
import Derived.Test.YtklilfbokpljkaaPqE2
import Derived.Test.YtklilfbokpljkaaPqC2
import Derived.Test.YtklilfbokpljkaaPqA2
import Derived.Deep.CutBlock
import Derived.Deep.CutRange
import Derived.Deep.DeepCutAuto
import Derived.Deep.RegionHeld3
namespace Go.Proofs.Ytklilfbokpljkaa.fnOnsets
open Go.ChangeShapes Go.WideShapes Go.ChangeAt Go.RowKit Go.ChangeMaps
set_option linter.unusedSimpArgs false
set_option linter.unusedVariables false

theorem own : ownKnob Try.prog.godebug = none := by kernel_rfl

theorem St.bx {w : World} {b : Nat} {cs : List Value} (h : Bx w b cs) : St w (fun w' => Bx w' b cs) := fun w' hb => h.below hb
theorem St.pk {w : World} {v : Value} {xs : List GPick} (h : PickL w w.heap.size v xs) : St w (fun w' => PickL w' w'.heap.size v xs) := fun w' hb => (h.below hb).mono hb.size
theorem bdk_szs {xs : List GPick} (h : xs.length ≤ 20) : szsPick xs ≤ 1048576 := by rw [szsPick_split]; omega
theorem St.ssl {w : World} {v : Value} {xss : List (List Int)} (h : SSL w w.heap.size v xss) : St w (fun w' => SSL w' w'.heap.size v xss) := fun w' hb => (h.below hb).mono hb.size
set_option maxRecDepth 100000 in
set_option maxHeartbeats 4000000 in
theorem walk_main (ao : Option Addr) (n cap : Nat) (w : World) (hn : n ≤ 65536) (hcode : Code w w.heap.size ao n) :
    Calls Try.prog 14 #[.slice ao n cap] w fun e w' => e = .returned (.bool true) ∧ Below w.heap.size w w' := by
  have C0 : CodeArg w w.heap.size (.slice ao n cap) := ⟨Nat.le_refl _, ao, n, cap, rfl, hn, hcode⟩
  clear hcode
  have hni : (n : Int) ≤ 65536 := by omega
  have sb0 := St.chain w
  have sc0 := St.code C0
  clear C0
  go_enter Try.func14, Try.ntmps14
  go_wp2_with fail
  refine (rBig_no n cap ao w hni).mono ?_
  rintro e w1 ⟨rfl, hw1⟩
  obtain rfl := hw1.symm
  go_wp2_with fail
  refine (drawPairedPicks w _ _ sc0.now).mono ?_
  rintro e w2 ⟨v1, xs, st, rfl, hbs, hD1⟩
  have sb_2 := sb0.step hD1.below
  have sc_2 := sc0.step hD1.below
  clear sb0 sc0
  have s13 := St.pk hD1.lst
  obtain ⟨a1, c1, rfl⟩ := hD1.lst.form
  have hz1 : szsPick xs ≤ 1048576 := bdk_szs hD1.len
  have hw1 : ∀ s ∈ xs, wfPick s := fun s hs => (hD1.bd s hs).wf
  clear hD1
  have hIs : I64 st := by unfold I64; omega
  go_wp2_with fail
  refine (implPr xs _ st w2 _ s13.now (Nat.le_refl _) hz1 hw1 hIs).mono ?_
  rintro e w4 ⟨v2, rfl, ho2, hb4⟩
  have sb_4 := sb_2.step hb4
  have sc_4 := sc_2.step hb4
  have s1_4 := s13.step hb4
  clear sb_2 sc_2 s13 hb4
  have sp5 := St.ssl ho2.lst
  obtain ⟨av2, cv2, rfl⟩ := ho2.form
  clear ho2
  go_wp2_with fail
  refine (specPr xs _ st w4 _ s1_4.now (Nat.le_refl _) hz1 hw1 hIs).mono ?_
  rintro e w6 ⟨v3, rfl, ho3, hb6⟩
  have sb_6 := sb_4.step hb6
  have sc_6 := sc_4.step hb6
  have s1_6 := s1_4.step hb6
  have sp_6 := sp5.step hb6
  clear sb_4 sc_4 s1_4 sp5 hb6
  have sq7 := St.ssl ho3.lst
  obtain ⟨av3, cv3, rfl⟩ := ho3.form
  clear ho3
  have HPF := Lib.hid (fun r (h : r ∈ resPr xs st) => pr_facts h)
  have HPL := Lib.hid (And.intro hz1 hw1)
  generalize okPr xs st = kp at *
  generalize resPr xs st = ll at *
  clear hIs hbs
  go_wp2_with fail
  refine (rTable_same ll _ _ w6 _ sp_6.now sq7.now (Nat.le_refl _)).mono ?_
  rintro e w8 ⟨rfl, hb8⟩
  have sb_8 := sb_6.step hb8
  have sc_8 := sc_6.step hb8
  have s1_8 := s1_6.step hb8
  have sp_8 := sp_6.step hb8
  have sq_8 := sq7.step hb8
  clear sb_6 sc_6 s1_6 sp_6 sq7 hb8
  clear sq_8
  have HWN := Lib.hid (fun v w' i (h : PickL w' w'.heap.size v xs) (hi : I64 i) => implWin xs v i w' _ h (Nat.le_refl _) hz1 hw1 hi)
  have HGD : Hid (∀ r ∈ ll, goodP xs = true) := Lib.hid (fun r h => cur_good (HPF.out r h).choose_spec.choose_spec.2.2.1.1)
  go_wp2_with fail
  refine (implCurP xs _ w8 _ s1_8.now (Nat.le_refl _) hz1 hw1).mono ?_
  rintro e w9 ⟨v4, rfl, ho4, hb9⟩
  have sb_9 := sb_8.step hb9
  have sc_9 := sc_8.step hb9
  have s1_9 := s1_8.step hb9
  have sp_9 := sp_8.step hb9
  clear sb_8 sc_8 s1_8 sp_8 hb9
  have sn10 := St.own ho4
  obtain ⟨av4, cv4, rfl⟩ := ho4.lst.form
  clear ho4
  generalize resCur xs = lc at *
  generalize goodP xs = gg at *
  clear hz1 hw1 HPL
  have HS1 := Lib.hid s1_9
  have HSP := Lib.hid sp_9
  have HSN := Lib.hid sn10
  clear s1_9 sp_9 sn10
  have HZ := Lib.hid (HSP.out.now)
  obtain ⟨hmx, hmy⟩ : ll.length ≤ 9223372036854775807 ∧ True := ⟨by obtain ⟨us9, q1, ⟨ao9, cap9, -, q2, q3, -, -⟩, -⟩ := HZ.out; unfold maxLen at q3; omega, trivial⟩
  clear hmy HZ
  go_wp2_with fail
  go_loopw [11] (fun i wr => ∃ k : Nat, k ≤ ll.length ∧ i = .int .i64 k ∧ Below w9.heap.size w9 wr) (fun i _ => ll.length - (intOf i).toNat)
  case atStart => exact ⟨0, Nat.zero_le _, rfl, Below.refl _ _⟩
  case round =>
    obtain ⟨k, hk1, rfl, hbl⟩ := hrel
    by_cases hlt : k < ll.length
    case pos =>
      obtain ⟨r, hr⟩ := get_of_lt hlt
      have hrm := List.mem_of_getElem? hr
      obtain ⟨x, y, rfl, ⟨hx, hy⟩, ⟨mx, my⟩, ⟨ex, ey⟩, hlo⟩ := HPF.out r hrm
      have hgg := HGD.out _ hrm
      subst hgg
      obtain ⟨us, hul, ⟨ao9, cap9, hv9, -, -, -, hc9⟩, hin⟩ := (HSP.out.step hbl).now
      obtain ⟨u, hu⟩ := get_of_lt (l := us) (k := k) (by omega)
      obtain ⟨bo, oo, rfl, hbo, ho⟩ := hc9 k u hu
      simp only [Value.slice.injEq] at hv9
      obtain ⟨rfl, -, -⟩ := hv9
      obtain ⟨ai, ci, rfl, -, -, -, hci⟩ := hin k u [x, y] hu hr
      obtain ⟨bi, oi, rfl, hbi, hx0⟩ := hci 0 x rfl
      obtain ⟨bi2, oi2, e2, -, hy0⟩ := hci 1 y rfl
      simp only [Option.some.injEq, Addr.mk.injEq, and_true] at e2
      obtain ⟨rfl, rfl⟩ := e2
      rw [Nat.add_zero] at hx0
      have HC := Lib.hid (fun (w' : World) (q : Below wr.heap.size wr w') => (⟨cellOf q hbo ho, cellOf q hbi hx0, cellOf q hbi hy0⟩ : _ ∧ _ ∧ _))
      have C1 := HWN.out _ wr x ((HS1.out.step hbl).now) hx
      rw [ex] at C1
      have C1 := Lib.hid C1
      have C2 := Lib.hid (fun w' (q : Below wr.heap.size wr w') => (by have h := HWN.out _ w' y ((HS1.out.step (hbl.trans (q.mono hbl.size))).now) hy; rw [ey] at h; exact h : Calls Try.prog 88 #[.slice a1 xs.length c1, .int .i64 y] w' fun e w2 => e = .returned (.tuple #[.int .i64 (loWin xs y), .int .i64 (hiWin xs y), .bool true]) ∧ Below w'.heap.size w' w2))
      have C3 := Lib.hid (fun w' (q : Below wr.heap.size wr w') => rHasYes lc _ x w' _ ((HSN.out.step (hbl.trans (q.mono hbl.size))).now) mx)
      have C4 := Lib.hid (fun w' (q : Below wr.heap.size wr w') => rHasYes lc _ y w' _ ((HSN.out.step (hbl.trans (q.mono hbl.size))).now) my)
      have mp0 : (0 : Int) ≤ (k : Int) := by omega
      have mp1 : (k : Int) < (ll.length : Int) := by omega
      have hng : ¬ loWin xs y ≤ hiWin xs x := by omega
      obtain ⟨lx, hlx⟩ : ∃ z, loWin xs x = z := ⟨_, rfl⟩
      obtain ⟨ux, hux⟩ : ∃ z, hiWin xs x = z := ⟨_, rfl⟩
      obtain ⟨ly, hly⟩ : ∃ z, loWin xs y = z := ⟨_, rfl⟩
      obtain ⟨uy, huy⟩ : ∃ z, hiWin xs y = z := ⟨_, rfl⟩
      rw [hlx, hux] at C1
      rw [hly, huy] at C2
      rw [hly, hux] at hng
      have HB := Lib.hid hbl
      obtain ⟨t0, t1, t2⟩ := HC.out wr (Below.refl _ _)
      clear hr hrm hx hy mx my ex ey hlo hlx hux hly huy hul hc9 hin hu ho hci hx0 hy0 HPF HGD HWN
      go_wp2_with fail
      refine C1.out.mono ?_
      rintro e wA ⟨rfl, hA⟩
      clear t0 t1 t2
      obtain ⟨t0, t1, t2⟩ := HC.out wA hA
      go_wp2_with fail
      refine (C2.out wA hA).mono ?_
      rintro e wB ⟨rfl, hB⟩
      have qB := hA.trans (hB.mono hA.size)
      clear t0 t1 t2
      obtain ⟨t0, t1, t2⟩ := HC.out wB qB
      go_wp2_with fail
      refine (C3.out wB qB).mono ?_
      rintro e wC ⟨rfl, hwC⟩
      obtain rfl := hwC.symm
      go_wp2_with fail
      refine (C4.out wB qB).mono ?_
      rintro e wD ⟨rfl, hwD⟩
      obtain rfl := hwD.symm
      go_wp2
      go_roundw
      case rel => exact ⟨k + 1, by omega, by go_num, HB.out.trans (qB.mono HB.out.size)⟩
      case measure => simp [intOf]; omega
    have hge : ¬ (k : Int) < (ll.length : Int) := by omega
    have sb_y := sb_9.step hbl
    have sc_y := sc_9.step hbl
    clear HPF HGD HWN HS1 HSP HSN hbl
    go_wp2_with fail
    refine (drawWindowOf wr _ _ sc_y.now).mono ?_
    rintro e w111 ⟨v8, ys, x, rfl, hbx, hD8⟩
    have sb_111 := sb_y.step hD8.below
    have sc_111 := sc_y.step hD8.below
    clear sb_y sc_y
    have s8112 := St.pk hD8.lst
    obtain ⟨a8, c8, rfl⟩ := hD8.lst.form
    have hz8 : szsPick ys ≤ 1048576 := bdk_szs hD8.len
    have hw8 : ∀ s ∈ ys, wfPick s := fun s hs => (hD8.bd s hs).wf
    clear hD8
    have hIx : I64 x := by unfold I64; omega
    go_wp2_with fail
    refine (implWin ys _ x w111 _ s8112.now (Nat.le_refl _) hz8 hw8 hIx).mono ?_
    rintro e w113 ⟨rfl, hb113⟩
    have sb_113 := sb_111.step hb113
    have sc_113 := sc_111.step hb113
    have s8_113 := s8112.step hb113
    clear sb_111 sc_111 s8112 hb113
    go_wp2_with fail
    refine (specWin ys _ x w113 _ s8_113.now (Nat.le_refl _) hz8 hw8 hIx).mono ?_
    rintro e w114 ⟨rfl, hb114⟩
    have sb_114 := sb_113.step hb114
    have sc_114 := sc_113.step hb114
    have s8_114 := s8_113.step hb114
    clear sb_113 sc_113 s8_113 hb114
    have hyl : ys.length ≤ 1048576 := by rw [szsPick_split] at hz8; exact hz8
    have HWF := Lib.hid (fun h => win_facts (xs := ys) (i := x) h)
    generalize okWin ys x = kw at *
    generalize loWin ys x = lo at *
    generalize hiWin ys x = hh at *
    clear hz8 hIx hbx
    have HS8 := Lib.hid s8_114
    clear s8_114
    go_wp2_with fail
    go_loopw [26] (fun i wr => ∃ k : Nat, k ≤ ys.length ∧ i = .int .i64 k ∧ Below w114.heap.size w114 wr) (fun i _ => ys.length - (intOf i).toNat)
    case atStart => exact ⟨0, Nat.zero_le _, rfl, Below.refl _ _⟩
    case round =>
      obtain ⟨k, hk1, rfl, hbl⟩ := hrel
      by_cases hlt : k < ys.length ∧ kw = true
      case pos =>
        obtain ⟨hlt, rfl⟩ := hlt
        obtain ⟨s, hs⟩ := get_of_lt hlt
        have hsf := HWF.out rfl s (List.mem_of_getElem? hs)
        obtain ⟨ao9, cap9, hv9, _, _, _, hc9⟩ := (HS8.out.step hbl).now
        simp only [Value.slice.injEq] at hv9
        obtain ⟨rfl, -, rfl⟩ := hv9
        obtain ⟨b, off, rfl, hb9, hcell⟩ := hc9 k s hs
        have t0 : wr.cell? ⟨b, off + k * 7, none⟩ = some (.int .i64 s.pId) := hcell 0 _ rfl
        have t3 : wr.cell? ⟨b, off + k * 7 + 3, none⟩ = some (.int .i64 s.pTick) := hcell 3 _ rfl
        have mp0 : (0 : Int) ≤ (k : Int) := by omega
        have mp1 : (k : Int) < (ys.length : Int) := by omega
        have HB := Lib.hid hbl
        clear hs hc9 hcell HWF
        by_cases he : s.pId = x
        · obtain ⟨n1, n2⟩ := hsf he
          subst he
          clear hsf
          go_wp2
          go_roundw
          case rel => exact ⟨k + 1, by omega, by go_num, HB.out⟩
          case measure => simp [intOf]; omega
        · have he2 : (s.pId == x) = false := by simpa using he
          clear hsf
          go_wp2
          go_roundw
          case rel => exact ⟨k + 1, by omega, by go_num, HB.out⟩
          case measure => simp [intOf]; omega
      have sb_z := sb_114.step hbl
      have sc_z := sc_114.step hbl
      clear HS8 HWF hbl
      have hend : ¬ k < ys.length ∨ kw = false := by by_cases q : k < ys.length; exact Or.inr (by cases kw with | false => rfl | true => exact absurd ⟨q, rfl⟩ hlt); exact Or.inl q
      clear hlt
      go_upto_region 22 with fail
      go_cut [178] from 172 to 205 (fun c wx => c = .bool false ∧ Below wr.heap.size wr wx)
      case first =>
        have cb215 := St.chain wr
        by_cases hk9 : k < ys.length
        · have mp1 : (k : Int) < (ys.length : Int) := by omega
          obtain rfl : kw = false := by rcases hend with q | q; exact absurd hk9 q; exact q
          go_wp2
          go_meet
          exact ⟨rfl, cb215.now⟩
        · have mp1 : ¬ (k : Int) < (ys.length : Int) := by omega
          go_wp2
          go_meet
          exact ⟨rfl, cb215.now⟩
      case rest =>
        obtain ⟨rfl, hb216⟩ := hcut
        obtain ⟨w216, hwc216⟩ : ∃ x, x = wc := ⟨wc, rfl⟩
        subst hwc216
        have sb_216 := sb_z.step hb216
        have sc_216 := sc_z.step hb216
        clear sb_z sc_z hb216
        clear hend
        go_wp2_with fail
        refine (drawRevisions w216 _ _ sc_216.now).mono ?_
        rintro e w217 ⟨v11, us, rfl, hD11⟩
        have sb_217 := sb_216.step hD11.below
        have sc_217 := sc_216.step hD11.below
        clear sb_216 sc_216
        have s11218 := St.pk hD11.lst
        obtain ⟨a11, c11, rfl⟩ := hD11.lst.form
        have hz11 : szsPick us ≤ 1048576 := bdk_szs hD11.len
        have hw11 : ∀ s ∈ us, wfPick s := fun s hs => (hD11.bd s hs).wf
        clear hD11
        clear sc_217
        go_wp2_with fail
        refine (implRevs us _ w217 _ s11218.now (Nat.le_refl _) hz11 hw11).mono ?_
        rintro e w219 ⟨rfl, hb219⟩
        have sb_219 := sb_217.step hb219
        have s11_219 := s11218.step hb219
        clear sb_217 s11218 hb219
        go_wp2_with fail
        refine (specRevs us _ w219 _ s11_219.now (Nat.le_refl _) hz11 hw11).mono ?_
        rintro e w220 ⟨rfl, hb220⟩
        have sb_220 := sb_219.step hb220
        have s11_220 := s11_219.step hb220
        clear sb_219 s11_219 hb220
        have hhum := hum_facts us
        have hmov := mov_facts us
        have D1 := Lib.hid (fun v w' (h : PickL w' w'.heap.size v us) => implMov us v w' _ h (Nat.le_refl _) hz11 hw11)
        have D2 := Lib.hid (fun v w' (h : PickL w' w'.heap.size v us) => specMov us v w' _ h (Nat.le_refl _) hz11 hw11)
        rw [hmov] at D1 D2
        clear hmov hz11 hw11
        generalize humR us = hu at *
        generalize allR us = al at *
        generalize goodP us = gu at *
        generalize bestM us = be at *
        generalize numM us = nu at *
        go_wp2_with fail
        refine (D1.out _ w220 s11_220.now).mono ?_
        rintro e w221 ⟨rfl, hb221⟩
        have sb_221 := sb_220.step hb221
        have s11_221 := s11_220.step hb221
        clear sb_220 s11_220 hb221
        go_wp2_with fail
        refine (D2.out _ w221 s11_221.now).mono ?_
        rintro e w222 ⟨rfl, hb222⟩
        have sb_222 := sb_221.step hb222
        have s11_222 := s11_221.step hb222
        clear sb_221 s11_221 hb222
        clear D1 D2
        cases gu with
        | false =>
          go_wp2
          go_ret
          exact ⟨by first | rfl | exact ret_bool (by simp), sb_222.now⟩
        | true =>
          by_cases ha : 0 < al
          · have ha2 : decide (0 < al) = true := decide_eq_true ha
            go_wp2
            go_ret
            exact ⟨by first | rfl | exact ret_bool (by simp), sb_222.now⟩
          · have ha2 : decide (0 < al) = false := decide_eq_false ha
            go_wp2
            go_ret
            exact ⟨by first | rfl | exact ret_bool (by simp), sb_222.now⟩

set_option maxRecDepth 100000 in
theorem walk_all (v : Value) {H : Type} {enc : TypeId × Value → H} {base : Nat} {d : DataW H} {ps : List MemPlace} {w : World} (hval : Value.okWide Try.prog w .any base 32 v)
    (hd : DataW.Trod enc Try.prog w 0 (fun _ => true) true 32 v d ps) :
    Calls Try.prog 14 #[v] w fun e w' => e = .returned (.bool true) ∧ Below w.heap.size w w' := by
  obtain ⟨ao, n, cap, rfl, hn, hc⟩ := open_code Try.underlying32 Try.underlying5 (by kernel_rfl) hval hd
  by_cases h : n ≤ 65536
  · exact walk_main ao n cap w h hc
  · have hi : (65536 : Int) < n := by omega
    go_enter Try.func14, Try.ntmps14
    go_wp2_with fail
    refine (rBig_yes n cap ao _ hi).mono ?_
    rintro e w0 ⟨rfl, hw⟩
    obtain rfl := hw.symm
    go_wp2
    go_ret
    exact ⟨rfl, Below.refl _ _⟩

set_option maxRecDepth 100000 in
theorem contract (H : Type) (enc : TypeId × Value → H) (W : World) (base : Nat) (args : Array Value) (ds gs : List (DataW H)) (before : List MemPlace)
    (hval : ∀ (j : Nat) t v, Try.f14.params[j]? = some t → args[j]? = some v → Value.okWide Try.prog W .any base t v)
    (hW : DataW.Whole enc Try.prog Try.f14.params.toList Rows.fnOnsetsSpec.vars false W args.toList ds gs before) :
    Calls Try.prog 14 args W fun e W' => ∃ v, e = .returned v ∧ Rows.fnOnsetsSpec.post enc Try.prog Try.f14 false true false false W args v W' := by
  have hW' := hW
  obtain ⟨p, q, hA0, hV, rfl, hfz, hnd⟩ := hW
  have hA : DataW.TrodAll enc Try.prog W 0 (fun _ => true) true Try.f14.params.toList args.toList ds p := hA0
  rw [Try.params14] at hA hval
  obtain ⟨v0, vs0, d0, ds0, p0, q0, hargs, rfl, rfl, h0, r0⟩ := trodAll_cons hA
  obtain ⟨rfl, rfl, rfl⟩ := trodAll_nil r0
  obtain rfl : args = #[v0] := by cases args; simp_all
  refine lawPost rfl rfl Try.underlying4 (by kernel_rfl) (by kernel_rfl) hW' (fun hg => by subst hg; exact ⟨rfl, rfl, rfl⟩) ?_
  exact walk_all v0 (hval 0 32 v0 rfl rfl) h0

set_option maxRecDepth 100000 in
theorem lifted (os : Os) (started : os.Started) (H : Type) (enc : TypeId × Value → H) :
    ReturnsInHanded {} Try.checked os 14 .any (Rows.fnOnsetsSpec.pre6 enc Try.prog Try.f14 Rows.fnOnsetsRow.domain false) (Rows.fnOnsetsSpec.post enc Try.prog Try.f14 false true false false) := by
  refine returnsInHanded_of_change (C := Try.checked) (s := Rows.fnOnsetsSpec) own started (by kernel_rfl) Try.func14
    (ChangeSpec.witness6 (enc := enc) (C := Try.checked) (s := Rows.fnOnsetsSpec) false ⟨#[], #[.slice none 0 0], []⟩ 8 (by kernel_rfl) (by kernel_rfl) (by kernel_rfl) (by kernel_rfl)) ?_
  intro W base args ds gs before hval hW _ _
  exact contract H enc W base args ds gs before hval hW

set_option maxRecDepth 100000 in
theorem said : Rows.FnOnsetsSaid :=
  OpenClaim.holds_of_wide 14 Try.f14 rfl rfl rfl rfl rfl rfl rfl ⟨rfl, rfl, rfl, rfl, rfl⟩ rfl rfl rfl rfl rfl (by kernel_rfl) Try.func14 (by kernel_rfl)
    (of_decide_eq_true (by kernel_rfl)) (by unfold Func.isWrapper; first | (rw [if_pos (by decide +kernel)]; kernel_rfl) | (rw [if_neg (by decide +kernel)]; exact ⟨rfl, rfl⟩))
    (fun os started H enc _ => lifted os started H enc)
end Go.Proofs.Ytklilfbokpljkaa.fnOnsets
