/- FnStrings: numbers are read back from their texts, sealed texts are read back, and a changed byte is found. -/
import Derived.Test.YtkjiejobiihipaaDoorFlip
import Derived.Test.YtkjiejobiihipaaDoorDrawD
import Derived.OpenShut
import Derived.StillTailTactics
namespace Go.Proofs.YtkjiejobiihipaaDoor.fnStrings
open Go.ChangeShapes Go.WideShapes Go.ChangeAt Go.RowKit Go.ChangeMaps
open Go.Proofs.YtkjiejobiihipaaDoor.fnExactFormatInt (okN resN resN_yes resN_no implFormat specFormat)

theorem gS : Tryd.prog.globalNamed "strconv.ErrSyntax" = some 0 := by kernel_rfl
theorem gST : (Tryd.prog.globals[0]?).map (·.type) = some 46 := by kernel_rfl
theorem gR : Tryd.prog.globalNamed "strconv.ErrRange" = some 1 := by kernel_rfl
theorem gRT : (Tryd.prog.globals[1]?).map (·.type) = some 46 := by kernel_rfl

/-- What the world holds that the law's calls read. -/
structure Holds (w : World) : Prop where
  pow : Pow10 w
  syn : ErrAt w 0
  ran : ErrAt w 1
  max : ∃ m, w.cell? ⟨2, 0, none⟩ = some (.int .i64 m)
theorem Holds.below {w w' : World} (h : Holds w) (hb : Below w.heap.size w w') : Holds w' :=
  ⟨pow10_below h.pow hb, h.syn.below hb, h.ran.below hb, let ⟨m, hm⟩ := h.max; ⟨m, cellOf hb (cell_of_lt hm) hm⟩⟩

theorem format_facts (n : Int) : (resN n).size ≤ 1048576 ∧ (okN n = true → resP (resN n) = n ∧ okP (resN n) = true) := by
  by_cases h : -999999 ≤ n ∧ n ≤ 999999
  · obtain ⟨e1, e2⟩ := resN_yes h
    rw [e1]
    have := num_small n (by omega)
    exact ⟨by omega, fun hk => okP_of_atoi hk rfl⟩
  · obtain ⟨e1, e2⟩ := resN_no h
    rw [e1, e2]
    exact ⟨by show 0 ≤ _; omega, fun hk => by cases hk⟩
theorem seal_facts (x : ByteArray) : (okS x = false ∧ resS x = ⟨#[]⟩) ∨ (okS x = true ∧ resS x = seal_ x ∧ has x 35 = false ∧ (seal_ x).size ≤ 4000 ∧ resV (seal_ x) = x ∧ okV (seal_ x) = true ∧ 0 < (seal_ x).size) := by
  cases h : okS x with
  | false => left; exact ⟨rfl, by unfold resS; rw [h]; rfl⟩
  | true =>
    right
    have h2 := h
    unfold okS at h2
    rw [Bool.and_eq_true, Bool.and_eq_true, decide_eq_true_eq, decide_eq_true_eq, Bool.not_eq_true'] at h2
    obtain ⟨⟨h3, h4⟩, h5⟩ := h2
    have hf := first_seal x h4
    obtain ⟨g1, g2⟩ := okV_good (s := seal_ x) (by rw [hf]; exact h) (by rw [hf])
    rw [hf] at g1
    refine ⟨rfl, resS_val h, h4, h5, g1, g2, ?_⟩
    unfold seal_
    rw [ByteArray.size_append, ByteArray.size_append]
    show 0 < _ + 1 + _
    omega

/-- A code: a slice of bytes. -/
theorem open_code {H : Type} {enc : TypeId × Value → H} {P : Program} {w : World} {base : Nat} {t e : TypeId} {v : Value} {d : DataW H} {ps : List MemPlace}
    (ht : P.underlying t = some (.slice e)) (he : P.underlying e = some (.int .u8)) (hc : P.cellsOf e = 1) (hval : Value.okWide P w .any base t v)
    (hd : DataW.Trod enc P w 0 (fun _ => true) true t v d ps) : ∃ ao n cap, v = .slice ao n cap ∧ n ≤ maxLen ∧ Code w w.heap.size ao n := by
  obtain ⟨a0, len, cap, rfl⟩ := okWide_slice ht hval
  obtain ⟨fuel, hf⟩ := hd
  rcases open_ints ht he hc hf with ⟨hcs, _⟩ | ⟨a, len', cap', zs, hcs, _, hl, hm, hz, _, hcell, hwz⟩
  · simp [Value.cells] at hcs
    obtain ⟨rfl, rfl, rfl⟩ := hcs
    exact ⟨none, 0, 0, rfl, by simp, fun i hi => absurd hi (by omega)⟩
  · simp [Value.cells] at hcs
    obtain ⟨rfl, rfl, rfl⟩ := hcs
    simp only [if_true] at hz
    refine ⟨some a, len, cap, rfl, by omega, fun i hi => ?_⟩
    have h1 := hcell i (by omega)
    obtain ⟨b, off, spot⟩ := a
    have hspot : spot = none := by simpa [Addr.add] using World.cell?_spot (hcell 0 (by omega))
    subst hspot
    rw [Addr.add_lit] at h1
    have hb := range_u8 hwz i
    rw [List.getD_eq_getElem?_getD] at h1
    exact ⟨b, off, _, rfl, cell_of_lt h1, h1, hb.1, by omega⟩

theorem big (n cap : Nat) (ao : Option Addr) (w : World) (h : (65536 : Int) < n) :
    Calls Tryd.prog 8 #[.slice ao n cap] w fun e w' => e = .returned (.bool true) ∧ w = w' := by
  go_enter Tryd.func8, Tryd.ntmps8
  go_wp2
  go_ret
  exact ⟨rfl, rfl⟩
theorem small (n cap : Nat) (ao : Option Addr) (w : World) (h : (n : Int) ≤ 65536) :
    Calls Tryd.prog 8 #[.slice ao n cap] w fun e w' => e = .returned (.bool false) ∧ w = w' := by
  go_enter Tryd.func8, Tryd.ntmps8
  go_wp2
  go_ret
  exact ⟨ret_bool (by simp; omega), rfl⟩

/-- The bytes of a text in a block of their own: they may be written. -/
structure Bytes (w : World) (g : Nat) (l : List UInt8) : Prop where
  lt : g < w.heap.size
  cell : ∀ j (hj : j < l.length), w.cell? ⟨g, j, none⟩ = some (.int .u8 (l[j].toNat : Int))
  fz : ∀ j, j < l.length → w.frozen? ⟨g, j, none⟩ = false
theorem bytes_new (w : World) (y : ByteArray) (cap : Nat) (e : TypeId) :
    Bytes (w.drew.alloc (.cells (bytesRow y cap) e ((bytesRow y cap).size, (bytesRow y cap).size + 1))) w.heap.size y.data.toList := by
  have eh : (w.drew.alloc (.cells (bytesRow y cap) e ((bytesRow y cap).size, (bytesRow y cap).size + 1))).heap = w.heap.push (.cells (bytesRow y cap) e ((bytesRow y cap).size, (bytesRow y cap).size + 1)) := rfl
  have hsz : y.data.size ≤ (bytesRow y cap).size := by unfold bytesRow; simp
  refine ⟨by rw [eh]; simp, fun j hj => ?_, fun j hj => ?_⟩
  · rw [Array.length_toList] at hj
    have := bytesRow_at y cap j hj
    simp [World.cell?, eh, this]
  · rw [Array.length_toList] at hj
    simp [World.frozen?, eh]
    omega
theorem Bytes.set {w : World} {g : Nat} {l : List UInt8} (h : Bytes w g l) {k : Nat} (hk : k < l.length) (c : UInt8) : Bytes (w.setCell ⟨g, k, none⟩ (.int .u8 (c.toNat : Int))) g (l.set k c) := by
  refine ⟨by simp [h.lt], fun j hj => ?_, fun j hj => by rw [World.frozen?_setCell]; exact h.fz j (by simpa using hj)⟩
  have hj2 : j < l.length := by simpa using hj
  by_cases e : k = j
  · subst e
    rw [List.getElem_set_self]
    exact World.cell?_setCell_same' _ _ _ (by rw [h.cell k hk]; rfl)
  · rw [List.getElem_set_ne e, ← h.cell j hj2]
    exact World.cell?_setCell_other _ _ _ _ (by simp)
theorem below_set (w : World) (B g k : Nat) (v : Value) (h : B ≤ g) : Below B w (w.setCell ⟨g, k, none⟩ v) :=
  ⟨rfl, rfl, rfl, by simp, fun j hj => heap_setCell_other _ _ _ _ (by show j ≠ g; omega)⟩
theorem below_new (w : World) (o : Obj) : Below w.heap.size w (w.drew.alloc o) :=
  ⟨rfl, rfl, rfl, by show _ ≤ (w.heap.push o).size; simp, fun k hk => by show (w.heap.push o)[k]? = _; rw [Array.getElem?_push, if_neg (by omega)]⟩

set_option maxRecDepth 100000 in
set_option maxHeartbeats 4000000 in
theorem walk_main (ao : Option Addr) (n cap : Nat) (w : World) (hn : n ≤ 65536) (hcode : Code w w.heap.size ao n) (HH : Hid (Holds w)) :
    Calls Tryd.prog 3 #[.slice ao n cap] w fun e w' => e = .returned (.bool true) ∧ Below w.heap.size w w' := by
  have C0 : CodeArg w w.heap.size (.slice ao n cap) := ⟨Nat.le_refl _, ao, n, cap, rfl, hn, hcode⟩
  have HC := Lib.hid hcode
  clear hcode
  have hni : (n : Int) ≤ 65536 := by omega
  go_enter Tryd.func3, Tryd.ntmps3
  go_wp2_with fail
  refine (small n cap ao _ hni).mono ?_
  rintro e w0 ⟨rfl, rfl⟩
  go_wp2_with fail
  refine (drawFormat _ _ _ C0).mono ?_
  rintro e w1 ⟨num, rfl, hn0, hn1, hB1⟩
  obtain ⟨hfs, hff⟩ := format_facts num
  have hIF := fun w hp => implFormat num w hp
  have hSF := fun w => specFormat num w
  generalize okN num = kn at hff hIF hSF
  generalize resN num = sn at hfs hff hIF hSF
  have HFF := Lib.hid hff
  have HIF := Lib.hid hIF
  have HSF := Lib.hid hSF
  clear hff hIF hSF
  go_wp2_with fail
  refine (HIF.out _ (HH.out.below hB1).pow).mono ?_
  rintro e w2 ⟨rfl, hb2⟩
  have hB2 := hB1.trans (hb2.mono hB1.size)
  clear hb2 hB1
  go_wp2_with fail
  refine (HSF.out _).mono ?_
  rintro e w3 ⟨rfl, m3, h3⟩
  have hB3 : Below w.heap.size w w3 := by rw [h3]; exact drewN_b hB2 m3
  clear h3 hB2
  go_wp2_with fail
  refine (drawParse _ _ _ (C0.below hB3)).mono ?_
  rintro e w4 ⟨t, rfl, ht, hb4⟩
  have hB4 := hB3.trans (hb4.mono hB3.size)
  clear hb4 hB3
  go_wp2_with fail
  refine (implParse t ht _ (HH.out.below hB4).pow (HH.out.below hB4).syn (HH.out.below hB4).ran).mono ?_
  have hSP := fun w => specParse t w ht
  generalize resP t = pt at hSP ⊢
  generalize okP t = kt at hSP ⊢
  have HSP := Lib.hid hSP
  clear hSP
  rintro e w5 ⟨rfl, hb5⟩
  have hB5 := hB4.trans (hb5.mono hB4.size)
  clear hb5 hB4
  go_wp2_with fail
  refine (HSP.out _).mono ?_
  rintro e w6 ⟨rfl, m6, h6⟩
  have hB6 : Below w.heap.size w w6 := by rw [h6]; exact drewN_b hB5 m6
  clear h6 hB5
  go_wp2_with fail
  refine (drawAppend _ _ _ (C0.below hB6)).mono ?_
  rintro e w7 ⟨x, rfl, hx, hb7⟩
  have hB7 := hB6.trans (hb7.mono hB6.size)
  clear hb7 hB6
  have hsf := seal_facts x
  have hIA := fun w hp => implAppend x w (by omega) hp
  have hSA := fun w => specAppend x w (by omega)
  generalize okS x = ks at hsf hIA hSA
  generalize resS x = y at hsf hIA hSA
  have HSS := Lib.hid hsf
  have HIA := Lib.hid hIA
  have HSA := Lib.hid hSA
  clear hsf hIA hSA
  go_wp2_with fail
  refine (HIA.out _ (HH.out.below hB7).pow).mono ?_
  rintro e w8 ⟨rfl, hb8⟩
  have hB8 := hB7.trans (hb8.mono hB7.size)
  clear hb8 hB7
  go_wp2_with fail
  refine (HSA.out _).mono ?_
  rintro e w9 ⟨rfl, m9, h9⟩
  have hB9 : Below w.heap.size w w9 := by rw [h9]; exact drewN_b hB8 m9
  clear h9 hB8
  go_wp2_with fail
  refine (implParse sn hfs _ (HH.out.below hB9).pow (HH.out.below hB9).syn (HH.out.below hB9).ran).mono ?_
  have hff := HFF.out
  generalize resP sn = ps at hff ⊢
  generalize okP sn = pk at hff ⊢
  rintro e w10 ⟨rfl, hb10⟩
  have hB10 := hB9.trans (hb10.mono hB9.size)
  clear hb10 hB9 HFF HIF HSF HSP HIA HSA
  cases kn with
  | false =>
    clear hff
    rcases HSS.out with ⟨rfl, rfl⟩ | ⟨rfl, hy, hx35, hy4, hrv, hov, hy0⟩
    · clear HSS
      go_wp2
      go_ret
      exact ⟨ret_bool (by simp), hB10⟩
    · have HX35 := Lib.hid hx35
      rw [← hy] at hy4 hrv hov hy0
      have HY := Lib.hid hy
      have hIV := fun w hp m hm => implVerify y w (by omega) hp m hm
      simp only [hrv, hov] at hIV
      have HIV := Lib.hid hIV
      clear hIV hrv hov hx35 hy HSS
      go_wp2_with fail
      obtain ⟨mm, hmm⟩ := (HH.out.below hB10).max
      refine (HIV.out _ (HH.out.below hB10).pow mm hmm).mono ?_
      clear hmm
      rintro e w11 ⟨rfl, hb11⟩
      have hB11 := hB10.trans (hb11.mono hB10.size)
      clear hb11 hB10 HIV
      go_wp2_with fail
      rw [run_bytes_of_string w11 _ _ _ y Tryd.underlying9 Tryd.underlying22 Tryd.underlying5]
      have hby := bytes_new w11 y (grownCap w11 y.size 0 5) 5
      have hB12 := hB11.trans ((below_new w11 (.cells (bytesRow y (grownCap w11 y.size 0 5)) 5 ((bytesRow y (grownCap w11 y.size 0 5)).size, (bytesRow y (grownCap w11 y.size 0 5)).size + 1))).mono hB11.size)
      have hg11 := hB11.size
      generalize w11.drew.alloc (.cells (bytesRow y (grownCap w11 y.size 0 5)) 5 ((bytesRow y (grownCap w11 y.size 0 5)).size, (bytesRow y (grownCap w11 y.size 0 5)).size + 1)) = w12 at hby hB12 ⊢
      generalize grownCap w11 y.size 0 5 = gc
      generalize w11.heap.size = g at hby hg11 ⊢
      clear hB11
      have HBY := Lib.hid hby
      clear hby
      go_wp2_with fail
      refine (vAt_any ao n cap 9 _ w.heap.size (HC.out.keep fun bb o h => hB12.cell (p := ⟨bb, o, none⟩) h) hn (by omega) (by omega)).mono ?_
      rintro e w13 ⟨r, rfl, hr0, hr1, rfl⟩
      have hym : (y.size : Int) ≤ 4000 := by omega
      have hy1 : (0 : Int) < (y.size : Int) := by omega
      obtain ⟨k, hk⟩ : ∃ k : Nat, r % (y.size : Int) = (k : Int) := ⟨(r % (y.size : Int)).toNat, by have := Int.emod_nonneg r (show (y.size : Int) ≠ 0 by omega); omega⟩
      have hky : (k : Int) < (y.size : Int) := by have := Int.emod_lt_of_pos r hy1; omega
      go_wp2_with fail
      have hkl : k < y.data.toList.length := by rw [Array.length_toList]; show k < y.size; omega
      have hcell := HBY.out.cell k hkl
      have hfz := HBY.out.fz k hkl
      obtain ⟨r2, hr20, hr21, hV2⟩ := vAt_const ao n cap 10 w12 w.heap.size (HC.out.keep fun bb o h => hB12.cell (p := ⟨bb, o, none⟩) h) hn (by omega) (by omega)
      have HV2 := Lib.hid hV2
      clear hV2
      obtain ⟨a, ha⟩ : ∃ a, y.data.toList[k]? = some a := ⟨_, List.getElem?_eq_getElem hkl⟩
      have ha2 : y.data.toList[k] = a := (List.getElem?_eq_some_iff.1 ha).2
      rw [ha2] at hcell
      obtain ⟨c, hxor, hca⟩ := xor_ne a (1 + r2 % 255) (by omega) (by omega)
      have HKL := Lib.hid hkl
      have HCA := Lib.hid hca
      have HA := Lib.hid ha
      have HX := Lib.hid hxor
      clear hca ha ha2 hkl hxor
      have hcell2 : ({ w12 with drawn := w12.drawn + 1 } : World).cell? ⟨g, k, none⟩ = some (.int .u8 (a.toNat : Int)) := hcell
      have hxor := HX.out
      go_still_tail 13, (by kernel_rfl)
      still_call (HV2.out 1)
      repeat still_step
      refine wpStill_nil ?_
      change wpList _ _ _ _ _ (w12.drewN 1)
      have HB13 := Lib.hid (show Bytes (w12.drewN 1) g y.data.toList from ⟨HBY.out.lt, HBY.out.cell, HBY.out.fz⟩)
      have hB13 : Below w.heap.size w (w12.drewN 1) := drewN_b hB12 1
      have hcell3 : (w12.drewN 1).cell? ⟨g, k, none⟩ = some (.int .u8 (a.toNat : Int)) := hcell
      have hfz3 : (w12.drewN 1).frozen? ⟨g, k, none⟩ = false := hfz
      clear hcell hcell2 hfz HBY hB12 HV2 hxor
      generalize w12.drewN 1 = w13 at HB13 hB13 hcell3 hfz3 ⊢
      have hset := HB13.out.set HKL.out c
      have hB14 := hB13.trans (below_set w13 w.heap.size g k (.int .u8 (c.toNat : Int)) hg11)
      have HBS := Lib.hid hset
      clear hset
      go_wp2_with fail
      rw [HX.out]
      have hcv := run_convert_bytes_back (P := Tryd.prog) (w13.setCell ⟨g, k, none⟩ (.int .u8 (c.toNat : Int))) 22 9 5 ⟨g, 0, none⟩ gc (y.data.toList.set k c) Tryd.underlying22 Tryd.underlying5 Tryd.underlying9
        (fun j hj => by rw [Addr.add_lit, Nat.zero_add]; exact HBS.out.cell j hj)
      have hll : (y.data.toList.set k c).length = y.size := by rw [List.length_set, Array.length_toList]; rfl
      rw [hll] at hcv
      have hy2l : (⟨(y.data.toList.set k c).toArray⟩ : ByteArray).data.toList = y.data.toList.set k c := by simp
      generalize (⟨(y.data.toList.set k c).toArray⟩ : ByteArray) = y2 at hcv hy2l
      have hy2s : y2.size = y.size := by rw [← hll, ← hy2l, Array.length_toList]; rfl
      have hbad : okV y2 = false := by
        have hyy := HY.out
        have hka := HA.out
        refine flip_bad x y2 HX35.out k c ?_ ?_ ?_
        · rw [← hyy]; omega
        · rw [← hyy, hka]; exact fun e => HCA.out (Option.some.inj e).symm
        · rw [← hyy]; exact hy2l
      have hIV := fun w hp m hm => implVerify y2 w (by omega) hp m hm
      rw [hcv]
      simp only [hbad] at hIV
      generalize resV y2 = z2 at hIV
      have HIV := Lib.hid hIV
      generalize w13.setCell ⟨g, k, none⟩ (.int .u8 (c.toNat : Int)) = w14 at hB14 ⊢
      clear hIV hcv hbad hy2l HBS HB13 hB13 hcell3 hfz3 hll
      go_wp2_with fail
      obtain ⟨mm2, hmm2⟩ := (HH.out.below hB14).max
      refine (HIV.out _ (HH.out.below hB14).pow mm2 hmm2).mono ?_
      clear hmm2
      rintro e w15 ⟨rfl, hb15⟩
      have hB15 := hB14.trans (hb15.mono hB14.size)
      go_wp2
      go_ret
      exact ⟨ret_bool (by simp), hB15⟩
  | true =>
    obtain ⟨rfl, rfl⟩ := hff rfl
    clear hff
    rcases HSS.out with ⟨rfl, rfl⟩ | ⟨rfl, hy, hx35, hy4, hrv, hov, hy0⟩
    · clear HSS
      go_wp2
      go_ret
      exact ⟨ret_bool (by simp), hB10⟩
    · have HX35 := Lib.hid hx35
      rw [← hy] at hy4 hrv hov hy0
      have HY := Lib.hid hy
      have hIV := fun w hp m hm => implVerify y w (by omega) hp m hm
      simp only [hrv, hov] at hIV
      have HIV := Lib.hid hIV
      clear hIV hrv hov hx35 hy HSS
      go_wp2_with fail
      obtain ⟨mm, hmm⟩ := (HH.out.below hB10).max
      refine (HIV.out _ (HH.out.below hB10).pow mm hmm).mono ?_
      clear hmm
      rintro e w11 ⟨rfl, hb11⟩
      have hB11 := hB10.trans (hb11.mono hB10.size)
      clear hb11 hB10 HIV
      go_wp2_with fail
      rw [run_bytes_of_string w11 _ _ _ y Tryd.underlying9 Tryd.underlying22 Tryd.underlying5]
      have hby := bytes_new w11 y (grownCap w11 y.size 0 5) 5
      have hB12 := hB11.trans ((below_new w11 (.cells (bytesRow y (grownCap w11 y.size 0 5)) 5 ((bytesRow y (grownCap w11 y.size 0 5)).size, (bytesRow y (grownCap w11 y.size 0 5)).size + 1))).mono hB11.size)
      have hg11 := hB11.size
      generalize w11.drew.alloc (.cells (bytesRow y (grownCap w11 y.size 0 5)) 5 ((bytesRow y (grownCap w11 y.size 0 5)).size, (bytesRow y (grownCap w11 y.size 0 5)).size + 1)) = w12 at hby hB12 ⊢
      generalize grownCap w11 y.size 0 5 = gc
      generalize w11.heap.size = g at hby hg11 ⊢
      clear hB11
      have HBY := Lib.hid hby
      clear hby
      go_wp2_with fail
      refine (vAt_any ao n cap 9 _ w.heap.size (HC.out.keep fun bb o h => hB12.cell (p := ⟨bb, o, none⟩) h) hn (by omega) (by omega)).mono ?_
      rintro e w13 ⟨r, rfl, hr0, hr1, rfl⟩
      have hym : (y.size : Int) ≤ 4000 := by omega
      have hy1 : (0 : Int) < (y.size : Int) := by omega
      obtain ⟨k, hk⟩ : ∃ k : Nat, r % (y.size : Int) = (k : Int) := ⟨(r % (y.size : Int)).toNat, by have := Int.emod_nonneg r (show (y.size : Int) ≠ 0 by omega); omega⟩
      have hky : (k : Int) < (y.size : Int) := by have := Int.emod_lt_of_pos r hy1; omega
      go_wp2_with fail
      have hkl : k < y.data.toList.length := by rw [Array.length_toList]; show k < y.size; omega
      have hcell := HBY.out.cell k hkl
      have hfz := HBY.out.fz k hkl
      obtain ⟨r2, hr20, hr21, hV2⟩ := vAt_const ao n cap 10 w12 w.heap.size (HC.out.keep fun bb o h => hB12.cell (p := ⟨bb, o, none⟩) h) hn (by omega) (by omega)
      have HV2 := Lib.hid hV2
      clear hV2
      obtain ⟨a, ha⟩ : ∃ a, y.data.toList[k]? = some a := ⟨_, List.getElem?_eq_getElem hkl⟩
      have ha2 : y.data.toList[k] = a := (List.getElem?_eq_some_iff.1 ha).2
      rw [ha2] at hcell
      obtain ⟨c, hxor, hca⟩ := xor_ne a (1 + r2 % 255) (by omega) (by omega)
      have HKL := Lib.hid hkl
      have HCA := Lib.hid hca
      have HA := Lib.hid ha
      have HX := Lib.hid hxor
      clear hca ha ha2 hkl hxor
      have hcell2 : ({ w12 with drawn := w12.drawn + 1 } : World).cell? ⟨g, k, none⟩ = some (.int .u8 (a.toNat : Int)) := hcell
      have hxor := HX.out
      go_still_tail 13, (by kernel_rfl)
      still_call (HV2.out 1)
      repeat still_step
      refine wpStill_nil ?_
      change wpList _ _ _ _ _ (w12.drewN 1)
      have HB13 := Lib.hid (show Bytes (w12.drewN 1) g y.data.toList from ⟨HBY.out.lt, HBY.out.cell, HBY.out.fz⟩)
      have hB13 : Below w.heap.size w (w12.drewN 1) := drewN_b hB12 1
      have hcell3 : (w12.drewN 1).cell? ⟨g, k, none⟩ = some (.int .u8 (a.toNat : Int)) := hcell
      have hfz3 : (w12.drewN 1).frozen? ⟨g, k, none⟩ = false := hfz
      clear hcell hcell2 hfz HBY hB12 HV2 hxor
      generalize w12.drewN 1 = w13 at HB13 hB13 hcell3 hfz3 ⊢
      have hset := HB13.out.set HKL.out c
      have hB14 := hB13.trans (below_set w13 w.heap.size g k (.int .u8 (c.toNat : Int)) hg11)
      have HBS := Lib.hid hset
      clear hset
      go_wp2_with fail
      rw [HX.out]
      have hcv := run_convert_bytes_back (P := Tryd.prog) (w13.setCell ⟨g, k, none⟩ (.int .u8 (c.toNat : Int))) 22 9 5 ⟨g, 0, none⟩ gc (y.data.toList.set k c) Tryd.underlying22 Tryd.underlying5 Tryd.underlying9
        (fun j hj => by rw [Addr.add_lit, Nat.zero_add]; exact HBS.out.cell j hj)
      have hll : (y.data.toList.set k c).length = y.size := by rw [List.length_set, Array.length_toList]; rfl
      rw [hll] at hcv
      have hy2l : (⟨(y.data.toList.set k c).toArray⟩ : ByteArray).data.toList = y.data.toList.set k c := by simp
      generalize (⟨(y.data.toList.set k c).toArray⟩ : ByteArray) = y2 at hcv hy2l
      have hy2s : y2.size = y.size := by rw [← hll, ← hy2l, Array.length_toList]; rfl
      have hbad : okV y2 = false := by
        have hyy := HY.out
        have hka := HA.out
        refine flip_bad x y2 HX35.out k c ?_ ?_ ?_
        · rw [← hyy]; omega
        · rw [← hyy, hka]; exact fun e => HCA.out (Option.some.inj e).symm
        · rw [← hyy]; exact hy2l
      have hIV := fun w hp m hm => implVerify y2 w (by omega) hp m hm
      rw [hcv]
      simp only [hbad] at hIV
      generalize resV y2 = z2 at hIV
      have HIV := Lib.hid hIV
      generalize w13.setCell ⟨g, k, none⟩ (.int .u8 (c.toNat : Int)) = w14 at hB14 ⊢
      clear hIV hcv hbad hy2l HBS HB13 hB13 hcell3 hfz3 hll
      go_wp2_with fail
      obtain ⟨mm2, hmm2⟩ := (HH.out.below hB14).max
      refine (HIV.out _ (HH.out.below hB14).pow mm2 hmm2).mono ?_
      clear hmm2
      rintro e w15 ⟨rfl, hb15⟩
      have hB15 := hB14.trans (hb15.mono hB14.size)
      go_wp2
      go_ret
      exact ⟨ret_bool (by simp), hB15⟩

theorem walk_all (v : Value) {H : Type} {enc : TypeId × Value → H} {base : Nat} {d : DataW H} {ps : List MemPlace} {w : World} (hval : Value.okWide Tryd.prog w .any base 22 v)
    (hd : DataW.Trod enc Tryd.prog w 0 (fun _ => true) true 22 v d ps) (hL : laidMetH Tryd.prog Rows.fnStringsRow.laid w) (hS : w.ShapedOpen Tryd.prog) :
    Calls Tryd.prog 3 #[v] w fun e w' => e = .returned (.bool true) ∧ Below w.heap.size w w' := by
  obtain ⟨ao, n, cap, rfl, hn, hc⟩ := open_code Tryd.underlying22 Tryd.underlying5 (by kernel_rfl) hval hd
  have HH : Holds w := ⟨pow10_of hL (by rfl), errAt_of hL (by rfl) (by exact fun h => h) gS gST, errAt_of hL (by rfl) (by exact fun h => h) gR gRT, Tryd.laysM145.s1_3 w hS⟩
  by_cases h : n ≤ 65536
  · exact walk_main ao n cap w h hc (Lib.hid HH)
  · have hi : (65536 : Int) < n := by omega
    clear hL hS HH
    go_enter Tryd.func3, Tryd.ntmps3
    go_wp2_with fail
    refine (big n cap ao _ hi).mono ?_
    rintro e w0 ⟨rfl, rfl⟩
    go_wp2
    go_ret
    exact ⟨rfl, Below.refl _ _⟩

noncomputable def laidWorld (os : Os) : World := holdingAll os Rows.fnStringsRow.laid

theorem contract (H : Type) (enc : TypeId × Value → H) (W : World) (base : Nat) (args : Array Value) (ds gs : List (DataW H)) (before : List MemPlace)
    (hval : ∀ (j : Nat) t v, Tryd.f3.params[j]? = some t → args[j]? = some v → Value.okWide Tryd.prog W .any base t v)
    (hW : DataW.Whole enc Tryd.prog Tryd.f3.params.toList Rows.fnStringsSpec.vars false W args.toList ds gs before) (hL : laidMetH Tryd.prog Rows.fnStringsRow.laid W) (hS : W.ShapedOpen Tryd.prog) :
    Calls Tryd.prog 3 args W fun e W' => ∃ v, e = .returned v ∧ Rows.fnStringsSpec.post enc Tryd.prog Tryd.f3 false true false false W args v W' := by
  have hW' := hW
  obtain ⟨p, q, hA0, hV, rfl, hfz, hnd⟩ := hW
  have hA : DataW.TrodAll enc Tryd.prog W 0 (fun _ => true) true Tryd.f3.params.toList args.toList ds p := hA0
  rw [Tryd.params3] at hA hval
  obtain ⟨v0, vs0, d0, ds0, p0, q0, hargs, rfl, rfl, h0, r0⟩ := trodAll_cons hA
  obtain ⟨rfl, rfl, rfl⟩ := trodAll_nil r0
  obtain rfl : args = #[v0] := by cases args; simp_all
  refine lawPost rfl rfl Tryd.underlying4 (by kernel_rfl) (by kernel_rfl) hW' (fun hg => by subst hg; exact ⟨rfl, rfl, rfl⟩) ?_
  exact walk_all v0 (hval 0 22 v0 rfl rfl) h0 hL hS

theorem laid_met (os : Os) : laidMet Tryd.prog Rows.fnStringsRow.laid ((laidWorld os).forCall (fun _ _ => 0) ⟨#[], #[.slice none 0 0], []⟩).memory :=
  laidMet_of_run' 8 (by kernel_rfl) (by kernel_rfl)
theorem reads (os : Os) {H : Type} (enc : TypeId × Value → H) : ∃ places, DataW.whole enc Tryd.prog ((laidWorld os).forCall (fun _ _ => 0) ⟨#[], #[.slice none 0 0], []⟩).memory Tryd.f3.params.toList Rows.fnStringsSpec.vars false #[.slice none 0 0].toList 8 = some ([.nil], [], places) :=
  ⟨[], by kernel_rfl⟩

set_option maxRecDepth 100000 in
theorem lifted (os : Os) (started : os.Started) (H : Type) (enc : TypeId × Value → H) (F : Stop.Interp) :
    ReturnsInHanded {} Tryd.checked os 3 .any ((OpenSpec.ofChange Rows.fnStringsSpec).preRow enc Tryd.prog Tryd.f3 Rows.fnStringsRow.domain false Rows.fnStringsRow.laid) (((OpenSpec.ofChange Rows.fnStringsSpec).at F).post enc Tryd.prog Tryd.f3 false true false false) := by
  obtain ⟨places, hx⟩ := reads os enc
  refine returnsInHanded_of_row (C := Tryd.checked) (s := OpenSpec.ofChange Rows.fnStringsSpec) own started (by kernel_rfl) Tryd.func3
    (witness_row_at (enc := enc) (C := Tryd.checked) false (laidWorld os) #[.slice none 0 0] rfl (by kernel_rfl) (by kernel_rfl) (by kernel_rfl)
      (OpenSpec.preRow_of_cond 8 hx (by kernel_rfl) (fun k hk => by cases hk) (by kernel_rfl) (laid_met os))) ?_
  intro W base args ds gs before hval hW _ _ _ hL hS _
  exact contract H enc W base args ds gs before hval hW hL hS

theorem said : Rows.FnStringsSaid :=
  OpenClaim.holds_of_cond 3 Tryd.f3 rfl rfl rfl rfl rfl rfl rfl ⟨rfl, rfl, rfl, rfl, rfl⟩ rfl rfl rfl rfl rfl (by kernel_rfl) Tryd.func3 (by kernel_rfl)
    (of_decide_eq_true (by kernel_rfl)) (by unfold Func.isWrapper; first | (rw [if_pos (by decide +kernel)]; kernel_rfl) | (rw [if_neg (by decide +kernel)]; exact ⟨rfl, rfl⟩))
    (fun os started H enc _ F => by rw [OpenClaim.pre_eq_preRow]; exact lifted os started H enc F)

theorem plain (f : FuncId) (fn : Func) (hf : Tryd.pinned.checked.prog.funcNamed Rows.fnStringsRow.func = some f) (hfn : Tryd.pinned.checked.prog.funcs[f]? = some fn) :
    true = Tryd.pinned.checked.prog.looks [] ∧ ∀ (j : Nat) t, fn.params[j]? = some t → Tryd.pinned.checked.prog.wantsStandIn t = false := by
  obtain rfl : f = 3 := Option.some.inj ((show Tryd.prog.funcNamed Rows.fnStringsRow.func = some 3 by kernel_rfl).symm.trans hf) |>.symm
  obtain rfl : fn = Tryd.f3 := (Option.some.inj (Tryd.func3.symm.trans hfn)).symm
  refine ⟨by kernel_rfl, fun j t ht => ?_⟩
  have hall : Tryd.f3.params.toList.all (fun t => Tryd.prog.wantsStandIn t == false) = true := by kernel_rfl
  have hm : t ∈ Tryd.f3.params.toList := by simpa using Array.mem_of_getElem? ht
  exact eq_of_beq (List.all_eq_true.1 hall t hm)

theorem card : Rows.FnStringsCardSaid :=
  Claim7.holds_tied_plain_at .later [] _ _ _ _ said (fun _ h => by cases h) (by kernel_rfl) (fun _ h => by cases h) fnStrings_row_tie rfl ⟨rfl, rfl⟩ (by kernel_rfl) rfl plain (by kernel_rfl)

end Go.Proofs.YtkjiejobiihipaaDoor.fnStrings
