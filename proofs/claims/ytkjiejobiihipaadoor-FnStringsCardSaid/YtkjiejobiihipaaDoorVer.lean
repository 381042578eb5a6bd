/- FnExactVerifyChecksum: for every string the law answers true, where the listed variables hold what the program's text lays. -/
import Derived.Test.YtkjiejobiihipaaDoorSeal
import Derived.Test.YtkjiejobiihipaaDoorSplit
namespace Go.Proofs.YtkjiejobiihipaaDoor
open Go.ChangeShapes Go.WideShapes Go.ChangeAt Go.RowKit Go.ChangeMaps

theorem indexByte_spec (c : UInt8) : ∀ (l : List UInt8), (Lib.indexByte l c = -1 ∧ c ∉ l) ∨ ∃ i : Nat, Lib.indexByte l c = i ∧ l[i]? = some c ∧ c ∉ l.take i := by
  intro l
  induction l with
  | nil => left; simp [Lib.indexByte]
  | cons b r ih =>
    by_cases hb : b = c
    · subst hb
      right
      exact ⟨0, by simp [Lib.indexByte], by simp, by simp⟩
    · have hne : (b == c) = false := by simpa using hb
      have hb' : ¬ c = b := fun e => hb e.symm
      rcases ih with ⟨h1, h2⟩ | ⟨i, h1, h2, h3⟩
      · left
        refine ⟨by simp [Lib.indexByte, hne, h1], ?_⟩
        simp [hb', h2]
      · right
        refine ⟨i + 1, ?_, by simpa using h2, ?_⟩
        · have h4 : ((i : Int) == -1) = false := by simp
          simp [Lib.indexByte, hne, h1, h4]
        · simp [hb', h3]

/-- Where the first # stands, or the text's end. -/
def cutAt (s : ByteArray) : Nat := if 0 ≤ Lib.indexByte s.data.toList 35 then (Lib.indexByte s.data.toList 35).toNat else s.size
def first (s : ByteArray) : ByteArray := s.extract 0 (cutAt s)

theorem scan_none {c : UInt8} {s : ByteArray} : ∀ k, c ∉ s.data.toList.take k → scan c s k = ([], 0) := by
  intro k
  induction k with
  | zero => intro _; rfl
  | succ k ih =>
    intro h
    have h1 : ¬ s.data.toList[k]? = some c := by
      intro e
      rw [take_snoc e] at h
      simp at h
    rw [scan_miss h1]
    apply ih
    intro h2
    apply h
    have : s.data.toList.take k = (s.data.toList.take (k + 1)).take k := by rw [List.take_take]; congr 1; omega
    rw [this] at h2
    exact List.mem_of_mem_take h2
theorem scan_more {c : UInt8} {s : ByteArray} (k : Nat) : ∀ j, ∃ l, (scan c s (k + j)).1 = (scan c s k).1 ++ l := by
  intro j
  induction j with
  | zero => exact ⟨[], by simp⟩
  | succ j ih =>
    obtain ⟨l, hl⟩ := ih
    by_cases h : s.data.toList[k + j]? = some c
    · rw [← Nat.add_assoc, scan_hit h]
      exact ⟨l ++ _, by rw [hl, List.append_assoc]⟩
    · rw [← Nat.add_assoc, scan_miss h]; exact ⟨l, hl⟩
theorem split_first (s : ByteArray) : (split s 35)[0]? = some (first s) := by
  have hl : s.data.toList.length = s.size := by rw [Array.length_toList]; rfl
  unfold split first cutAt
  rcases indexByte_spec 35 s.data.toList with ⟨h1, h2⟩ | ⟨i, h1, h2, h3⟩
  · rw [h1, if_neg (by omega), scan_none s.size (fun h => h2 (List.mem_of_mem_take h))]
    rfl
  · have hi : i < s.size := by rw [← hl]; exact (List.getElem?_eq_some_iff.1 h2).1
    rw [h1, if_pos (by omega), Int.toNat_natCast]
    obtain ⟨l, e⟩ := scan_more (c := 35) (s := s) (i + 1) (s.size - (i + 1))
    rw [show i + 1 + (s.size - (i + 1)) = s.size by omega] at e
    rw [e, scan_hit h2, scan_none i h3]
    rfl
theorem first_size (s : ByteArray) : (first s).size ≤ s.size := by
  unfold first; rw [ByteArray.size_extract]; omega

def okV (s : ByteArray) : Bool := decide (s.size ≤ 4000) && decide (seal_ (first s) = s)
def resV (s : ByteArray) : ByteArray := if okV s then first s else .empty
theorem okV_yes {s : ByteArray} (h1 : s.size ≤ 4000) (h2 : seal_ (first s) = s) : resV s = first s ∧ okV s = true := by
  have : okV s = true := by unfold okV; rw [decide_eq_true h1, decide_eq_true h2]; rfl
  exact ⟨by unfold resV; rw [this]; rfl, this⟩
theorem okV_no {s : ByteArray} (h : ¬ s.size ≤ 4000 ∨ ¬ seal_ (first s) = s) : resV s = .empty ∧ okV s = false := by
  have : okV s = false := by
    unfold okV
    rcases h with h | h
    · rw [decide_eq_false h]; rfl
    · rw [decide_eq_false h]; simp
  exact ⟨by unfold resV; rw [this]; rfl, this⟩

set_option maxHeartbeats 400000 in
theorem specVerify (s : ByteArray) (w : World) (hs : s.size ≤ 1048576) :
    Calls Tryd.prog 20 #[.string s] w fun e w' => e = .returned (.tuple #[.string (resV s), .bool (okV s)]) ∧ Below w.heap.size w w' := by
  by_cases h1 : s.size ≤ 4000
  · have d1 : decide (4000 < (s.size : Int)) = false := by simp; omega
    have hf := first_size s
    have HF := Lib.hid (split_first s)
    have hl := split_len s 35
    have hl0 := hl.1
    by_cases h2 : seal_ (first s) = s
    · have HR := Lib.hid (okV_yes h1 h2)
      have H2 := Lib.hid h2
      clear h2
      go_enter Tryd.func20, Tryd.ntmps20
      go_wp2_with fail
      refine (l1Split_any s 35 _ hs).mono ?_
      rintro e w1 ⟨v, rfl, hrow, hb⟩
      obtain ⟨ao, cap, rfl, _, _, hc⟩ := (Own.of_row hrow).lst
      obtain ⟨b, off, rfl, _, hcell⟩ := hc 0 _ HF.out
      rw [Nat.add_zero] at hcell
      clear hc
      go_wp2_with (go_at_call 34; refine (l1Seal_any (first s) _ (by omega)).mono ?_; rintro e w' ⟨rfl, m, rfl⟩; rw [H2.out])
      go_ret2
      exact ⟨ret2S HR.out.1.symm HR.out.2.symm, drewN_b hb _⟩
    · have HR := Lib.hid (okV_no (Or.inr h2))
      have h3 := str_ne h2
      clear h2
      go_enter Tryd.func20, Tryd.ntmps20
      go_wp2_with fail
      refine (l1Split_any s 35 _ hs).mono ?_
      rintro e w1 ⟨v, rfl, hrow, hb⟩
      obtain ⟨ao, cap, rfl, _, _, hc⟩ := (Own.of_row hrow).lst
      obtain ⟨b, off, rfl, _, hcell⟩ := hc 0 _ HF.out
      rw [Nat.add_zero] at hcell
      clear hc
      go_wp2_with (go_at_call 34; refine (l1Seal_any (first s) _ (by omega)).mono ?_; rintro e w' ⟨rfl, m, rfl⟩)
      go_ret2
      exact ⟨ret2S HR.out.1.symm HR.out.2.symm, drewN_b hb _⟩
  · have d1 : decide (4000 < (s.size : Int)) = true := by simp; omega
    have HR := Lib.hid (okV_no (Or.inl h1))
    go_enter Tryd.func20, Tryd.ntmps20
    go_wp2
    go_ret2
    exact ⟨ret2S HR.out.1.symm HR.out.2.symm, Below.refl _ _⟩

theorem seal_has (t : ByteArray) : has (seal_ t) 35 = true := by
  apply has_yes
  unfold seal_
  simp
theorem first_clean (s : ByteArray) : has (first s) 35 = false := by
  apply has_no
  have e : (first s).data.toList = s.data.toList.take (cutAt s) := by
    unfold first
    rw [ByteArray.data_extract, Array.toList_extract]
    simp
  rw [e]
  unfold cutAt
  rcases indexByte_spec 35 s.data.toList with ⟨h1, h2⟩ | ⟨i, h1, h2, h3⟩
  · intro h; exact h2 (List.mem_of_mem_take h)
  · rw [h1, if_pos (by omega), Int.toNat_natCast]; exact h3
theorem okV_bad {s : ByteArray} (h : okS (first s) = false) : resV s = .empty ∧ okV s = false := by
  by_cases h2 : seal_ (first s) = s
  · apply okV_no
    left
    intro h1
    have hf := first_size s
    have := (resS_yes (s := first s) (by omega) (first_clean s) (by rw [h2]; exact h1)).2
    rw [h] at this
    cases this
  · exact okV_no (Or.inr h2)
theorem okV_good {s : ByteArray} (h : okS (first s) = true) (h2 : seal_ (first s) = s) : resV s = first s ∧ okV s = true := by
  apply okV_yes _ h2
  unfold okS at h
  rw [Bool.and_eq_true, decide_eq_true_eq, h2] at h
  exact h.2
theorem okV_none {s : ByteArray} (h : has s 35 = false) : resV s = .empty ∧ okV s = false := by
  apply okV_no
  right
  intro e
  have := seal_has (first s)
  rw [e, h] at this
  cases this
theorem resS_val {s : ByteArray} (h : okS s = true) : resS s = seal_ s := by unfold resS; rw [h]; rfl

def rest (s : ByteArray) : ByteArray := ⟨(Lib.cut s.data.toList [35]).2.1.toArray⟩
theorem cut_any (s : ByteArray) (b : Bool) (h : has s 35 = b) (m : Int) (w : World) (hs : s.size ≤ 1048576) (hm : w.cell? ⟨2, 0, none⟩ = some (.int .i64 m)) :
    Calls Tryd.prog 35 #[.string s, .string ⟨#[35]⟩] w fun e w' => e = .returned (.tuple #[.string (first s), .string (rest s), .bool b]) ∧ ∃ n, w' = w.drewN n := by
  refine (Tryd.strings_Cut s ⟨#[35]⟩ m w (by omega) hm).mono fun e w' ⟨he, hw⟩ => ⟨?_, hw⟩
  rw [he]
  have hl : s.data.toList.length = s.size := by rw [Array.length_toList]; rfl
  have hcut : (⟨(Lib.cut s.data.toList [35]).1.toArray⟩ : ByteArray) = first s ∧ (Lib.cut s.data.toList [35]).2.2 = b := by
    have hi : Lib.index s.data.toList [35] = Lib.indexByte s.data.toList 35 := Lib.index_one _ _
    unfold Lib.cut first cutAt
    rw [hi, ← h]
    by_cases h0 : 0 ≤ Lib.indexByte s.data.toList 35
    · rw [if_pos h0, if_pos h0]
      refine ⟨?_, (has_yes ((indexByte_mem _ _).1 h0)).symm⟩
      apply bytes_ext
      rw [ByteArray.data_extract, Array.toList_extract]
      simp
    · rw [if_neg h0, if_neg h0]
      refine ⟨?_, (has_no (fun hm => h0 ((indexByte_mem _ _).2 hm))).symm⟩
      apply bytes_ext
      rw [ByteArray.data_extract, Array.toList_extract]
      have ht : s.data.toList.take s.size = s.data.toList := List.take_of_length_le (by omega)
      simp only [List.extract_eq_take_drop, Nat.sub_zero, List.drop_zero, ht]
  have e1 := hcut.1
  have e2 := hcut.2
  show Ending.returned (.tuple #[.string ⟨(Lib.cut s.data.toList [35]).1.toArray⟩, .string ⟨(Lib.cut s.data.toList [35]).2.1.toArray⟩, .bool (Lib.cut s.data.toList [35]).2.2]) = _
  rw [e1, e2]
  rfl

set_option maxHeartbeats 400000 in
theorem implVerify (s : ByteArray) (w : World) (hs : s.size ≤ 1048576) (hp : Pow10 w) (m : Int) (hm : w.cell? ⟨2, 0, none⟩ = some (.int .i64 m)) :
    Calls Tryd.prog 18 #[.string s] w fun e w' => e = .returned (.tuple #[.string (resV s), .bool (okV s)]) ∧ Below w.heap.size w w' := by
  have HP := Lib.hid hp
  have HM := Lib.hid hm
  have hf := first_size s
  have hf2 : (first s).size ≤ 1048576 := by omega
  clear hp hm
  cases hh : has s 35 with
  | false =>
    have HR := Lib.hid (okV_none hh)
    have HH := Lib.hid hh
    clear hh
    go_enter Tryd.func18, Tryd.ntmps18
    go_wp2_with (go_at_call 35; refine (cut_any s false HH.out m _ hs HM.out).mono ?_; rintro e w' ⟨rfl, n, rfl⟩)
    go_ret2
    exact ⟨ret2S HR.out.1.symm HR.out.2.symm, drewN_b (Below.refl _ _) _⟩
  | true =>
    have HH := Lib.hid hh
    clear hh
    cases ho : okS (first s) with
    | false =>
      have HR := Lib.hid (okV_bad ho)
      have HO := Lib.hid ho
      clear ho
      go_enter Tryd.func18, Tryd.ntmps18
      go_wp2_with fail
      refine (cut_any s true HH.out m _ hs HM.out).mono ?_
      rintro e w' ⟨rfl, n, rfl⟩
      go_wp2_with fail
      refine (implAppend (first s) _ hf2 (show Pow10 (w.drewN n) from HP.out)).mono ?_
      rintro e w2 ⟨rfl, hb⟩
      rw [HO.out]
      go_wp2
      go_ret2
      exact ⟨ret2S HR.out.1.symm HR.out.2.symm, (drewN_b (Below.refl _ _) n).trans hb⟩
    | true =>
      have HV := Lib.hid (resS_val ho)
      by_cases h2 : seal_ (first s) = s
      · have HR := Lib.hid (okV_good ho h2)
        have HO := Lib.hid ho
        have H2 := Lib.hid h2
        clear ho h2
        go_enter Tryd.func18, Tryd.ntmps18
        go_wp2_with fail
        refine (cut_any s true HH.out m _ hs HM.out).mono ?_
        rintro e w' ⟨rfl, n, rfl⟩
        go_wp2_with fail
        refine (implAppend (first s) _ hf2 (show Pow10 (w.drewN n) from HP.out)).mono ?_
        rintro e w2 ⟨rfl, hb⟩
        rw [HO.out, HV.out, H2.out]
        go_wp2
        go_ret2
        exact ⟨ret2S HR.out.1.symm HR.out.2.symm, (drewN_b (Below.refl _ _) n).trans hb⟩
      · have HR := Lib.hid (okV_no (Or.inr h2))
        have HO := Lib.hid ho
        have h3 := str_ne h2
        clear ho h2
        go_enter Tryd.func18, Tryd.ntmps18
        go_wp2_with fail
        refine (cut_any s true HH.out m _ hs HM.out).mono ?_
        rintro e w' ⟨rfl, n, rfl⟩
        go_wp2_with fail
        refine (implAppend (first s) _ hf2 (show Pow10 (w.drewN n) from HP.out)).mono ?_
        rintro e w2 ⟨rfl, hb⟩
        rw [HO.out, HV.out]
        go_wp2
        go_ret2
        exact ⟨ret2S HR.out.1.symm HR.out.2.symm, (drewN_b (Below.refl _ _) n).trans hb⟩
end Go.Proofs.YtkjiejobiihipaaDoor
namespace Go.Proofs.YtkjiejobiihipaaDoor.fnExactVerifyChecksum
open Go.ChangeShapes Go.WideShapes Go.ChangeAt Go.RowKit Go.ChangeMaps

theorem walk_all (s : ByteArray) (_ : s.size ≤ maxLen) (w : World) (hL : laidMetH Tryd.prog Rows.fnExactVerifyChecksumRow.laid w) (hS : w.ShapedOpen Tryd.prog) :
    Calls Tryd.prog 7 #[.string s] w fun e w' => e = .returned (.bool true) ∧ Below w.heap.size w w' := by
  have hp := pow10_of hL (by rfl)
  obtain ⟨m, hm⟩ := Tryd.laysM145.s1_3 w hS
  have hm : w.cell? ⟨2, 0, none⟩ = some (.int .i64 m) := hm
  have HP := Lib.hid hp
  have HM := Lib.hid hm
  have hg := cell_of_lt hm
  have HG := Lib.hid (show 2 < w.heap.size from hg)
  clear hL hS hp hm hg
  by_cases h1 : 1048576 < s.size
  · go_enter Tryd.func7, Tryd.ntmps7
    go_wp2
    go_ret
    exact ⟨rfl, Below.refl _ _⟩
  · have hs : s.size ≤ 1048576 := by omega
    go_enter Tryd.func7, Tryd.ntmps7
    go_wp2_with fail
    refine (specVerify s _ hs).mono ?_
    rintro e w1 ⟨rfl, hb1⟩
    go_wp2_with fail
    refine (implVerify s _ hs (pow10_below HP.out hb1) m (cellOf hb1 HG.out HM.out)).mono ?_
    rintro e w2 ⟨rfl, hb⟩
    go_wp2
    go_ret
    exact ⟨rfl, hb1.trans (hb.mono hb1.size)⟩

noncomputable def laidWorld (os : Os) : World := holdingTabs os Rows.fnExactVerifyChecksumRow.laid

theorem contract (H : Type) (enc : TypeId × Value → H) (W : World) (base : Nat) (args : Array Value) (ds gs : List (DataW H)) (before : List MemPlace)
    (hval : ∀ (j : Nat) t v, Tryd.f7.params[j]? = some t → args[j]? = some v → Value.okWide Tryd.prog W .any base t v)
    (hW : DataW.Whole enc Tryd.prog Tryd.f7.params.toList Rows.fnExactVerifyChecksumSpec.vars false W args.toList ds gs before) (hL : laidMetH Tryd.prog Rows.fnExactVerifyChecksumRow.laid W) (hS : W.ShapedOpen Tryd.prog) :
    Calls Tryd.prog 7 args W fun e W' => ∃ v, e = .returned v ∧ Rows.fnExactVerifyChecksumSpec.post enc Tryd.prog Tryd.f7 false true false false W args v W' := by
  have hW' := hW
  obtain ⟨p, q, hA0, hV, rfl, hfz, hnd⟩ := hW
  have hA : DataW.TrodAll enc Tryd.prog W 0 (fun _ => true) true Tryd.f7.params.toList args.toList ds p := hA0
  rw [Tryd.params7] at hA hval
  obtain ⟨v0, vs0, d0, ds0, p0, q0, hargs, rfl, rfl, h0, r0⟩ := trodAll_cons hA
  obtain ⟨rfl, rfl, rfl⟩ := trodAll_nil r0
  obtain rfl : args = #[v0] := by cases args; simp_all
  obtain ⟨s0, rfl, rfl, rfl, hm0⟩ := open_string Tryd.underlying9 (hval 0 9 v0 rfl rfl) h0
  refine lawPost rfl rfl Tryd.underlying4 (by kernel_rfl) (by kernel_rfl) hW' (fun hg => by subst hg; exact ⟨rfl, rfl, rfl⟩) ?_
  exact walk_all s0 hm0 W hL hS

theorem laid_met (os : Os) : laidMet Tryd.prog Rows.fnExactVerifyChecksumRow.laid ((laidWorld os).forCall (fun _ _ => 0) ⟨#[], #[.string .empty], []⟩).memory :=
  laidMet_of_run' 8 (by kernel_rfl) (by kernel_rfl)
theorem reads (os : Os) {H : Type} (enc : TypeId × Value → H) : ∃ places, DataW.whole enc Tryd.prog ((laidWorld os).forCall (fun _ _ => 0) ⟨#[], #[.string .empty], []⟩).memory Tryd.f7.params.toList Rows.fnExactVerifyChecksumSpec.vars false #[.string .empty].toList 8 = some ([.lit (.string [])], [], places) :=
  ⟨[], by kernel_rfl⟩

set_option maxRecDepth 100000 in
theorem lifted (os : Os) (started : os.Started) (H : Type) (enc : TypeId × Value → H) (F : Stop.Interp) :
    ReturnsInHanded {} Tryd.checked os 7 .any ((OpenSpec.ofChange Rows.fnExactVerifyChecksumSpec).preRow enc Tryd.prog Tryd.f7 Rows.fnExactVerifyChecksumRow.domain false Rows.fnExactVerifyChecksumRow.laid) (((OpenSpec.ofChange Rows.fnExactVerifyChecksumSpec).at F).post enc Tryd.prog Tryd.f7 false true false false) := by
  obtain ⟨places, hx⟩ := reads os enc
  refine returnsInHanded_of_row (C := Tryd.checked) (s := OpenSpec.ofChange Rows.fnExactVerifyChecksumSpec) own started (by kernel_rfl) Tryd.func7
    (witness_row_at (enc := enc) (C := Tryd.checked) false (laidWorld os) #[.string .empty] rfl (by kernel_rfl) (by kernel_rfl) (by kernel_rfl)
      (OpenSpec.preRow_of_cond 8 hx (by kernel_rfl) (fun k hk => by cases hk) (by kernel_rfl) (laid_met os))) ?_
  intro W base args ds gs before hval hW _ _ _ hL hS _
  exact contract H enc W base args ds gs before hval hW hL hS

theorem said : Rows.FnExactVerifyChecksumSaid :=
  OpenClaim.holds_of_cond 7 Tryd.f7 rfl rfl rfl rfl rfl rfl rfl ⟨rfl, rfl, rfl, rfl, rfl⟩ rfl rfl rfl rfl rfl (by kernel_rfl) Tryd.func7 (by kernel_rfl)
    (of_decide_eq_true (by kernel_rfl)) (by unfold Func.isWrapper; first | (rw [if_pos (by decide +kernel)]; kernel_rfl) | (rw [if_neg (by decide +kernel)]; exact ⟨rfl, rfl⟩))
    (fun os started H enc _ F => by rw [OpenClaim.pre_eq_preRow]; exact lifted os started H enc F)

theorem plain (f : FuncId) (fn : Func) (hf : Tryd.pinned.checked.prog.funcNamed Rows.fnExactVerifyChecksumRow.func = some f) (hfn : Tryd.pinned.checked.prog.funcs[f]? = some fn) :
    true = Tryd.pinned.checked.prog.looks [] ∧ ∀ (j : Nat) t, fn.params[j]? = some t → Tryd.pinned.checked.prog.wantsStandIn t = false := by
  obtain rfl : f = 7 := Option.some.inj ((show Tryd.prog.funcNamed Rows.fnExactVerifyChecksumRow.func = some 7 by kernel_rfl).symm.trans hf) |>.symm
  obtain rfl : fn = Tryd.f7 := (Option.some.inj (Tryd.func7.symm.trans hfn)).symm
  refine ⟨by kernel_rfl, fun j t ht => ?_⟩
  have hall : Tryd.f7.params.toList.all (fun t => Tryd.prog.wantsStandIn t == false) = true := by kernel_rfl
  have hm : t ∈ Tryd.f7.params.toList := by simpa using Array.mem_of_getElem? ht
  exact eq_of_beq (List.all_eq_true.1 hall t hm)

theorem card : Rows.FnExactVerifyChecksumCardSaid :=
  Claim7.holds_tied_plain_at .later [] _ _ _ _ said (fun _ h => by cases h) (by kernel_rfl) (fun _ h => by cases h) fnExactVerifyChecksum_row_tie rfl ⟨rfl, rfl⟩ (by kernel_rfl) rfl plain (by kernel_rfl)

end Go.Proofs.YtkjiejobiihipaaDoor.fnExactVerifyChecksum
