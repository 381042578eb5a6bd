/- FnSplitJoin: what lies between the parts is what joins them. -/
import Derived.Test.YtkjiejobiihipaaJoin
import Derived.Test.YtkjiejobiihipaaPieces
import Derived.Test.YtkjiejobiihipaaDraw
import Derived.OpenShut
namespace Go.Proofs.Ytkjiejobiihipaa.fnSplitJoin
open Go.ChangeShapes Go.WideShapes Go.ChangeAt Go.RowKit Go.ChangeMaps
open Go.Proofs.Ytkjiejobiihipaa.fnExactJoinStrings (joinB joinB_list joinB_size join_snoc okJ resJ ok_fits fits_yes has_no resJ_yes implJoin specJoin ok_sep)

theorem own : ownKnob Try.prog.godebug = none := by kernel_rfl

theorem list_extract (s : ByteArray) (a b : Nat) : (s.extract a b).data.toList = (s.data.toList.drop a).take (b - a) := by
  simp [ByteArray.data_extract, List.extract]
theorem take_two {α : Type} (l : List α) {a b : Nat} (h : a ≤ b) : l.take a ++ (l.drop a).take (b - a) = l.take b := by
  rw [← List.take_add, show a + (b - a) = b by omega]
theorem not_between {c : UInt8} {l : List UInt8} {a b : Nat} (h : ∀ j, a ≤ j → j < b → ¬ l[j]? = some c) : c ∉ (l.drop a).take (b - a) := by
  intro hm
  obtain ⟨i, hi⟩ := List.mem_iff_getElem?.1 hm
  rw [List.getElem?_take] at hi
  split at hi
  · rw [List.getElem?_drop] at hi
    exact h (a + i) (by omega) (by omega) hi
  · cases hi
theorem scan_join (c : UInt8) (s : ByteArray) : ∀ k, k ≤ s.size →
    (∀ j, (scan c s k).2 ≤ j → j < k → ¬ s.data.toList[j]? = some c) ∧ (∀ p ∈ (scan c s k).1, c ∉ p.data.toList) ∧
    (((scan c s k).1 = [] ∧ (scan c s k).2 = 0) ∨ ((scan c s k).1 ≠ [] ∧ Lib.join ((scan c s k).1.map (·.data.toList)) [c] ++ [c] = s.data.toList.take (scan c s k).2)) := by
  intro k
  induction k with
  | zero => intro _; exact ⟨fun j _ h => absurd h (by omega), by simp [scan], Or.inl ⟨rfl, rfl⟩⟩
  | succ k ih =>
    intro hk
    obtain ⟨h1, h2, h3⟩ := ih (by omega)
    have hle := (scan_le c s k).1
    by_cases h : s.data.toList[k]? = some c
    · rw [scan_hit h]
      refine ⟨fun j hj hj2 => by simp only at hj; omega, fun p hp => ?_, Or.inr ⟨by simp, ?_⟩⟩
      · rcases List.mem_append.1 hp with hp | hp
        · exact h2 p hp
        · rw [List.mem_singleton.1 hp, list_extract]; exact not_between h1
      · simp only
        rw [take_snoc h, List.map_append, List.map_singleton, list_extract]
        rcases h3 with ⟨e1, e2⟩ | ⟨e1, e2⟩
        · rw [e1, e2]; simp [Lib.join_one]
        · rw [join_snoc _ _ _ (by simpa using e1), e2, take_two _ hle]
    · rw [scan_miss h]
      refine ⟨fun j hj hj2 => ?_, h2, h3⟩
      by_cases e : j = k
      · rw [e]; exact h
      · exact h1 j hj (by omega)
/-- The parts hold no sign, and the sign joins them to the text. -/
theorem split_join (s sep : ByteArray) (c : UInt8) (hc : sep.data.toList = [c]) (h1 : sep.size = 1) (hs : s.size ≤ 4000) :
    joinB (split s c) sep = s ∧ okJ (split s c) sep = true := by
  obtain ⟨g1, g2, g3⟩ := scan_join c s s.size (Nat.le_refl _)
  have hle := (scan_le c s s.size).1
  have hlen := split_len s c
  have hL : s.data.toList.take s.size = s.data.toList := List.take_of_length_le (by rw [Array.length_toList]; exact Nat.le_refl _)
  have hj : joinB (split s c) sep = s := by
    apply bytes_ext
    rw [joinB_list, hc]
    unfold split
    rw [List.map_append, List.map_singleton, list_extract]
    rcases g3 with ⟨e1, e2⟩ | ⟨e1, e2⟩
    · rw [e1, e2]; simp [Lib.join_one, hL]
    · rw [join_snoc _ _ _ (by simpa using e1), e2, take_two _ hle, hL]
  refine ⟨hj, ?_⟩
  have hz := joinB_size sep h1 (split s c) hlen.1
  rw [hj] at hz
  rw [ok_fits hlen.1 h1 c hc]
  refine fits_yes (by omega) fun p hp => has_no ?_
  unfold split at hp
  rcases List.mem_append.1 hp with hp | hp
  · exact g2 p hp
  · rw [List.mem_singleton.1 hp, list_extract]; exact not_between g1

/-- A code: a slice of bytes. -/
theorem open_code {H : Type} {enc : TypeId × Value → H} {P : Program} {w : World} {base : Nat} {t e : TypeId} {v : Value} {d : DataW H} {ps : List MemPlace}
    (ht : P.underlying t = some (.slice e)) (he : P.underlying e = some (.int .u8)) (hc : P.cellsOf e = 1) (hval : Value.okWide P w .any base t v)
    (hd : DataW.Trod enc P w 0 (fun _ => true) true t v d ps) : ∃ ao n cap, v = .slice ao n cap ∧ n ≤ maxLen ∧ Code w w.heap.size ao n := by
  obtain ⟨a0, len, cap, rfl⟩ := okWide_slice ht hval
  obtain ⟨fuel, hf⟩ := hd
  rcases open_ints ht he hc hf with ⟨hcs, _⟩ | ⟨a, len', cap', zs, hcs, _, hl, hm, hz, _, hcell, hwz⟩
  · simp [Value.cells] at hcs
    obtain ⟨rfl, rfl, rfl⟩ := hcs
    exact ⟨none, 0, 0, rfl, by simp, fun i hi => absurd hi (by omega)⟩
  · simp [Value.cells] at hcs
    obtain ⟨rfl, rfl, rfl⟩ := hcs
    simp only [if_true] at hz
    refine ⟨some a, len, cap, rfl, by omega, fun i hi => ?_⟩
    have h1 := hcell i (by omega)
    obtain ⟨b, off, spot⟩ := a
    have hspot : spot = none := by simpa [Addr.add] using World.cell?_spot (hcell 0 (by omega))
    subst hspot
    rw [Addr.add_lit] at h1
    have hb := range_u8 hwz i
    rw [List.getD_eq_getElem?_getD] at h1
    exact ⟨b, off, _, rfl, cell_of_lt h1, h1, hb.1, by omega⟩

theorem big (n cap : Nat) (ao : Option Addr) (w : World) (h : (65536 : Int) < n) :
    Calls Try.prog 8 #[.slice ao n cap] w fun e w' => e = .returned (.bool true) ∧ w = w' := by
  go_enter Try.func8, Try.ntmps8
  go_wp2
  go_ret
  exact ⟨rfl, rfl⟩
theorem small (n cap : Nat) (ao : Option Addr) (w : World) (h : (n : Int) ≤ 65536) :
    Calls Try.prog 8 #[.slice ao n cap] w fun e w' => e = .returned (.bool false) ∧ w = w' := by
  go_enter Try.func8, Try.ntmps8
  go_wp2
  go_ret
  exact ⟨ret_bool (by simp; omega), rfl⟩

theorem implLess (a b : ByteArray) (x : Bool) (w : World) (h : Hid (Op.bytesLess a.toList b.toList = x)) :
    Calls Try.prog 15 #[.string a, .string b] w fun e w' => e = .returned (.bool x) ∧ w = w' := by
  go_enter Try.func15, Try.ntmps15
  go_wp2
  go_ret
  exact ⟨ret_bool h.out, rfl⟩
theorem specLess (a b : ByteArray) (x : Bool) (w : World) (h : Hid (Op.bytesLess a.toList b.toList = x)) :
    Calls Try.prog 16 #[.string a, .string b] w fun e w' => e = .returned (.bool x) ∧ w = w' := by
  go_enter Try.func16, Try.ntmps16
  go_wp2
  go_ret
  exact ⟨ret_bool h.out, rfl⟩
theorem less_asymm : ∀ l m : List UInt8, Op.bytesLess l m = true → Op.bytesLess m l = false := by
  intro l
  induction l with
  | nil => intro m h; cases m <;> simp [Op.bytesLess] at *
  | cons x l ih =>
    intro m h
    cases m with
    | nil => simp [Op.bytesLess] at h
    | cons y m =>
      simp only [Op.bytesLess, Bool.or_eq_true, decide_eq_true_eq, Bool.and_eq_true, beq_iff_eq, UInt8.lt_iff_toNat_lt] at h
      simp only [Op.bytesLess, Bool.or_eq_false_iff, decide_eq_false_iff_not, Bool.and_eq_false_iff, beq_eq_false_iff_ne, UInt8.lt_iff_toNat_lt]
      rcases h with h | ⟨rfl, h⟩
      · exact ⟨by omega, Or.inl fun e => by rw [e] at h; omega⟩
      · exact ⟨by omega, Or.inr (ih _ h)⟩
theorem joinBack (s sep : ByteArray) (c : UInt8) (hc : sep.data.toList = [c]) (h1 : sep.size = 1) (hs : s.size ≤ 4000) (v : Value) (w : World) (B : Nat) (hl : Lst Value.string w B v (split s c)) (hB : B ≤ w.heap.size) :
    Calls Try.prog 12 #[v, .string sep] w fun e w' => e = .returned (.tuple #[.string s, .bool true]) ∧ Below w.heap.size w w' := by
  obtain ⟨hj, hok⟩ := split_join s sep c hc h1 hs
  have hz := joinB_size sep h1 (split s c) (split_len s c).1
  rw [hj] at hz
  refine (implJoin (split s c) v sep w B hl hB (by omega) (by omega)).mono ?_
  rintro e w' ⟨rfl, hb⟩
  rw [hok, ← resJ_yes hok, hj]
  exact ⟨rfl, hb⟩

set_option maxHeartbeats 1000000 in
theorem walk_main (ao : Option Addr) (n cap : Nat) (w : World) (hn : n ≤ 65536) (hcode : Code w w.heap.size ao n) :
    Calls Try.prog 3 #[.slice ao n cap] w fun e w' => e = .returned (.bool true) ∧ Below w.heap.size w w' := by
  have C0 : CodeArg w w.heap.size (.slice ao n cap) := ⟨Nat.le_refl _, ao, n, cap, rfl, hn, hcode⟩
  have HC := Lib.hid hcode
  clear hcode
  have hni : (n : Int) ≤ 65536 := by omega
  go_enter Try.func3, Try.ntmps3
  go_wp2_with fail
  refine (small n cap ao _ hni).mono ?_
  rintro e w0 ⟨rfl, rfl⟩
  go_wp2_with fail
  refine (drawSplit _ _ _ C0).mono ?_
  rintro e w1 ⟨s, sep, rfl, hs, hsep, hb1⟩
  have z1 := hb1.size
  have C1 := C0.below hb1
  go_wp2_with fail
  refine (implSplit s sep _).mono ?_
  generalize hok : okSp s sep = x
  generalize hre : resSp s sep = rs
  have HOK := Lib.hid hok
  have HRE := Lib.hid hre
  clear hok hre
  rintro e w2 ⟨v0, rfl, r0, hb2⟩
  have l2 := (Own.of_row r0).lst
  have z2 := hb2.size
  have C2 := C1.below (hb2.mono z1)
  go_wp2_with fail
  refine (drawJoin _ _ _ C2).mono ?_
  rintro e w3 ⟨v3, mk, ks, rfl, hmk, l3, ht, hb3⟩
  have z3 := hb3.size
  have C3 := C2.below (hb3.mono (by omega))
  have l23 := l2.below hb3
  go_wp2_with fail
  refine (implJoin ks v3 mk _ _ l3 (Nat.le_refl _) ht (by omega)).mono ?_
  have hsj := fun w5 => specJoin ks v3 mk w5
  generalize okJ ks mk = y at hsj ⊢
  generalize resJ ks mk = rj at hsj ⊢
  have HS := Lib.hid hsj
  clear hsj
  rintro e w4 ⟨rfl, hb4⟩
  have z4 := hb4.size
  have C4 := C3.below (hb4.mono (by omega))
  have l24 := l23.below (hb4.mono z3)
  have l34 := l3.below hb4
  go_wp2_with fail
  refine (HS.out _ _ l34 z4 ht (by omega)).mono ?_
  rintro e w5 ⟨rfl, hb5⟩
  have z5 := hb5.size
  have C5 := C4.below (hb5.mono (by omega))
  have l25 := l24.below (hb5.mono (by omega))
  go_wp2_with fail
  refine (drawLess _ _ _ C5).mono ?_
  rintro e w6 ⟨a, b, rfl, ha, hb, hb6⟩
  have z6 := hb6.size
  have l26 := l25.below (hb6.mono (by omega))
  have hB6 : Below w.heap.size w w6 := ((((hb1.trans (hb2.mono (by omega))).trans (hb3.mono (by omega))).trans (hb4.mono (by omega))).trans (hb5.mono (by omega))).trans (hb6.mono (by omega))
  clear C0 C1 C2 C3 C4 C5 HC hb1 hb2 hb3 hb4 hb5 hb6 l3 l34 l23 l24 l25 r0 l2
  clear HS
  cases hab : Op.bytesLess a.toList b.toList with
  | false =>
    have HAB := Lib.hid hab
    clear hab
    go_wp2_with fail
    refine (implLess a b false _ HAB).mono ?_
    rintro e w7 ⟨rfl, rfl⟩
    go_wp2_with fail
    refine (specLess a b false _ HAB).mono ?_
    rintro e w7 ⟨rfl, rfl⟩
    go_wp2_with fail
    refine (implLess a b false _ HAB).mono ?_
    rintro e w7 ⟨rfl, rfl⟩
    by_cases h1 : sep.size = 1
    · obtain ⟨c, hcl, hc0⟩ := one_byte h1
      obtain ⟨e1, e2⟩ := resSp_yes (s := s) (by omega) h1 hcl
      obtain rfl : true = x := e2.symm.trans HOK.out
      obtain rfl : split s c = rs := e1.symm.trans HRE.out
      have d1 : ((sep.size : Int) != 1) = false := by simp [h1]
      have HJ := Lib.hid (joinBack s sep c hcl h1 (by omega))
      clear e1 e2 hcl hc0 h1 HOK HRE
      go_wp2_with fail
      refine (HJ.out _ _ _ l26 (by omega)).mono ?_
      rintro e w7 ⟨rfl, hb7⟩
      have hB7 := hB6.trans (hb7.mono (B' := w.heap.size) (by omega))
      go_wp2
      go_ret
      exact ⟨ret_bool (by simp), hB7⟩
    · obtain ⟨e1, e2⟩ := resSp_no (s := s) (sep := sep) (Or.inr h1)
      obtain rfl : false = x := e2.symm.trans HOK.out
      obtain rfl : [] = rs := e1.symm.trans HRE.out
      have d1 : ((sep.size : Int) != 1) = true := by simp; omega
      obtain ⟨ao2, cap2, rfl, _⟩ := l26
      clear e1 e2 h1 HOK HRE
      go_wp2
      go_ret
      exact ⟨ret_bool (by simp), hB6⟩
  | true =>
    have HBA := Lib.hid (less_asymm _ _ hab)
    have HAB := Lib.hid hab
    clear hab
    go_wp2_with fail
    refine (implLess a b true _ HAB).mono ?_
    rintro e w7 ⟨rfl, rfl⟩
    go_wp2_with fail
    refine (specLess a b true _ HAB).mono ?_
    rintro e w7 ⟨rfl, rfl⟩
    go_wp2_with fail
    refine (implLess a b true _ HAB).mono ?_
    rintro e w7 ⟨rfl, rfl⟩
    go_wp2_with fail
    refine (implLess b a false _ HBA).mono ?_
    rintro e w7 ⟨rfl, rfl⟩
    by_cases h1 : sep.size = 1
    · obtain ⟨c, hcl, hc0⟩ := one_byte h1
      obtain ⟨e1, e2⟩ := resSp_yes (s := s) (by omega) h1 hcl
      obtain rfl : true = x := e2.symm.trans HOK.out
      obtain rfl : split s c = rs := e1.symm.trans HRE.out
      have d1 : ((sep.size : Int) != 1) = false := by simp [h1]
      have HJ := Lib.hid (joinBack s sep c hcl h1 (by omega))
      clear e1 e2 hcl hc0 h1 HOK HRE
      go_wp2_with fail
      refine (HJ.out _ _ _ l26 (by omega)).mono ?_
      rintro e w7 ⟨rfl, hb7⟩
      have hB7 := hB6.trans (hb7.mono (B' := w.heap.size) (by omega))
      go_wp2
      go_ret
      exact ⟨ret_bool (by simp), hB7⟩
    · obtain ⟨e1, e2⟩ := resSp_no (s := s) (sep := sep) (Or.inr h1)
      obtain rfl : false = x := e2.symm.trans HOK.out
      obtain rfl : [] = rs := e1.symm.trans HRE.out
      have d1 : ((sep.size : Int) != 1) = true := by simp; omega
      obtain ⟨ao2, cap2, rfl, _⟩ := l26
      clear e1 e2 h1 HOK HRE
      go_wp2
      go_ret
      exact ⟨ret_bool (by simp), hB6⟩

theorem walk_all (v : Value) {H : Type} {enc : TypeId × Value → H} {base : Nat} {d : DataW H} {ps : List MemPlace} {w : World} (hval : Value.okWide Try.prog w .any base 22 v)
    (hd : DataW.Trod enc Try.prog w 0 (fun _ => true) true 22 v d ps) :
    Calls Try.prog 3 #[v] w fun e w' => e = .returned (.bool true) ∧ Below w.heap.size w w' := by
  obtain ⟨ao, n, cap, rfl, hn, hc⟩ := open_code Try.underlying22 Try.underlying5 (by kernel_rfl) hval hd
  by_cases h : n ≤ 65536
  · exact walk_main ao n cap w h hc
  · have hi : (65536 : Int) < n := by omega
    go_enter Try.func3, Try.ntmps3
    go_wp2_with fail
    refine (big n cap ao _ hi).mono ?_
    rintro e w0 ⟨rfl, rfl⟩
    go_wp2
    go_ret
    exact ⟨rfl, Below.refl _ _⟩

theorem contract (H : Type) (enc : TypeId × Value → H) (W : World) (base : Nat) (args : Array Value) (ds gs : List (DataW H)) (before : List MemPlace)
    (hval : ∀ (j : Nat) t v, Try.f3.params[j]? = some t → args[j]? = some v → Value.okWide Try.prog W .any base t v)
    (hW : DataW.Whole enc Try.prog Try.f3.params.toList Rows.fnSplitJoinSpec.vars false W args.toList ds gs before) :
    Calls Try.prog 3 args W fun e W' => ∃ v, e = .returned v ∧ Rows.fnSplitJoinSpec.post enc Try.prog Try.f3 false true false false W args v W' := by
  have hW' := hW
  obtain ⟨p, q, hA0, hV, rfl, hfz, hnd⟩ := hW
  have hA : DataW.TrodAll enc Try.prog W 0 (fun _ => true) true Try.f3.params.toList args.toList ds p := hA0
  rw [Try.params3] at hA hval
  obtain ⟨v0, vs0, d0, ds0, p0, q0, hargs, rfl, rfl, h0, r0⟩ := trodAll_cons hA
  obtain ⟨rfl, rfl, rfl⟩ := trodAll_nil r0
  obtain rfl : args = #[v0] := by cases args; simp_all
  refine lawPost rfl rfl Try.underlying4 (by kernel_rfl) (by kernel_rfl) hW' (fun hg => by subst hg; exact ⟨rfl, rfl, rfl⟩) ?_
  exact walk_all v0 (hval 0 22 v0 rfl rfl) h0

set_option maxRecDepth 100000 in
theorem lifted (os : Os) (started : os.Started) (H : Type) (enc : TypeId × Value → H) :
    ReturnsInHanded {} Try.checked os 3 .any (Rows.fnSplitJoinSpec.pre6 enc Try.prog Try.f3 Rows.fnSplitJoinRow.domain false) (Rows.fnSplitJoinSpec.post enc Try.prog Try.f3 false true false false) := by
  refine returnsInHanded_of_change (C := Try.checked) (s := Rows.fnSplitJoinSpec) own started (by kernel_rfl) Try.func3
    (ChangeSpec.witness6 (enc := enc) (C := Try.checked) (s := Rows.fnSplitJoinSpec) false ⟨#[], #[.slice none 0 0], []⟩ 8 (by kernel_rfl) (by kernel_rfl) (by kernel_rfl) (by kernel_rfl)) ?_
  intro W base args ds gs before hval hW _ _
  exact contract H enc W base args ds gs before hval hW

theorem said : Rows.FnSplitJoinSaid :=
  OpenClaim.holds_of_wide 3 Try.f3 rfl rfl rfl rfl rfl rfl rfl ⟨rfl, rfl, rfl, rfl, rfl⟩ rfl rfl rfl rfl rfl (by kernel_rfl) Try.func3 (by kernel_rfl)
    (of_decide_eq_true (by kernel_rfl)) (by unfold Func.isWrapper; first | (rw [if_pos (by decide +kernel)]; kernel_rfl) | (rw [if_neg (by decide +kernel)]; exact ⟨rfl, rfl⟩))
    (fun os started H enc _ => lifted os started H enc)

end Go.Proofs.Ytkjiejobiihipaa.fnSplitJoin
