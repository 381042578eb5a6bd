/- Valid stations: both programs ask the same. -/
import Derived.Test.YtklilfbokpljkabFStation
import Derived.Test.YtklilfbokpljkabStaW
namespace Go.Proofs.Ytklilfbokpljkab
open Go.ChangeShapes Go.WideShapes Go.ChangeAt Go.RowKit Go.ChangeMaps
set_option linter.unusedSimpArgs false
set_option linter.unusedVariables false

def goodS (s : GStation) : Bool := inB s.pId 1 99 && (goodW s.pName && (plcB s.pX s.pY && (inB s.pUntil 0 1000000 && (inB s.pGain 1 10000 && (inB s.pLow 1 5000 && (inB s.pHigh 1 5000 && decide (s.pLow < s.pHigh)))))))
theorem goodS_mk {s : GStation} (h0 : inB s.pId 1 99 = true) (h1 : goodW s.pName = true) (h2 : plcB s.pX s.pY = true) (h3 : inB s.pUntil 0 1000000 = true) (h4 : inB s.pGain 1 10000 = true) (h5 : inB s.pLow 1 5000 = true) (h6 : inB s.pHigh 1 5000 = true) (h7 : s.pLow < s.pHigh) : goodS s = true := by
  unfold goodS; rw [h0, h1, h2, h3, h4, h5, h6, decide_eq_true h7]; rfl
theorem goodS_yes {s : GStation} (h : goodS s = true) : inB s.pId 1 99 = true ∧ goodW s.pName = true ∧ plcB s.pX s.pY = true ∧ inB s.pUntil 0 1000000 = true ∧ inB s.pGain 1 10000 = true ∧ inB s.pLow 1 5000 = true ∧ inB s.pHigh 1 5000 = true ∧ s.pLow < s.pHigh := by
  unfold goodS at h
  simpa [Bool.and_eq_true, decide_eq_true_eq] using h
theorem goodS_no {s : GStation} (h : ¬ (inB s.pId 1 99 = true ∧ goodW s.pName = true ∧ plcB s.pX s.pY = true ∧ inB s.pUntil 0 1000000 = true ∧ inB s.pGain 1 10000 = true ∧ inB s.pLow 1 5000 = true ∧ inB s.pHigh 1 5000 = true ∧ s.pLow < s.pHigh)) : goodS s = false := by
  cases hg : goodS s with
  | false => rfl
  | true => exact absurd (goodS_yes hg) h
theorem inB_iff {x a b : Int} : inB x a b = true ↔ a ≤ x ∧ x ≤ b := by unfold inB; exact decide_eq_true_iff
theorem inB_f {x a b : Int} (h : ¬ inB x a b = true) : inB x a b = false := by simpa using h
theorem bool_f {b : Bool} (h : ¬ b = true) : b = false := by simpa using h
set_option maxHeartbeats 1000000 in
theorem implOne (s : GStation) (hw : wfStation s) (v : Bool) (w : World) (hv : goodS s = v) :
    Calls Try.prog 92 #[.agg #[.int .i64 s.pId, .string s.pName, .int .i64 s.pX, .int .i64 s.pY, .int .i64 s.pGain, .int .i64 s.pLow, .int .i64 s.pHigh, .int .i64 s.pUntil]] w fun e w' => e = .returned (.bool v) ∧ Below w.heap.size w w' := by
  subst hv
  have hnm : (s.pName.size : Int) ≤ 9223372036854775807 := hw.2.1
  by_cases h0 : inB s.pId 1 99 = true
  case neg =>
    have HG := Lib.hid (goodS_no (s := s) (fun g => h0 (by obtain ⟨g0, g1, g2, g3, g4, g5, g6, g7⟩ := g; first | assumption | (rw [inB_iff] at *; omega))))
    have H0 := Lib.hid (bool_f h0)
    clear h0
    go_enter Try.func92, Try.ntmps92
    go_wp2_with fail
    refine (implId _ false _ H0.out).mono ?_
    rintro e wq0 ⟨rfl, rfl⟩
    go_wp2
    go_ret
    exact ⟨ret_bool (by first | exact HG.out.symm | (rw [HG.out]; simp; omega)), (Below.refl _ _).alloc (Nat.le_refl _) _⟩
  have H0 := Lib.hid h0
  have b0 := inB_iff.1 h0
  obtain ⟨b0, b0'⟩ := b0
  clear h0
  by_cases h1 : goodW s.pName = true
  case neg =>
    have HG := Lib.hid (goodS_no (s := s) (fun g => h1 (by obtain ⟨g0, g1, g2, g3, g4, g5, g6, g7⟩ := g; first | assumption | (rw [inB_iff] at *; omega))))
    have H1 := Lib.hid (bool_f h1)
    clear h1
    go_enter Try.func92, Try.ntmps92
    go_wp2_with fail
    refine (implId _ true _ H0.out).mono ?_
    rintro e wq0 ⟨rfl, rfl⟩
    go_wp2_with fail
    refine (implWordV _ false _ H1.out).mono ?_
    rintro e wq1 ⟨rfl, rfl⟩
    go_wp2
    go_ret
    exact ⟨ret_bool (by first | exact HG.out.symm | (rw [HG.out]; simp; omega)), (Below.refl _ _).alloc (Nat.le_refl _) _⟩
  have H1 := Lib.hid h1
  clear h1
  by_cases h2 : plcB s.pX s.pY = true
  case neg =>
    have HG := Lib.hid (goodS_no (s := s) (fun g => h2 (by obtain ⟨g0, g1, g2, g3, g4, g5, g6, g7⟩ := g; first | assumption | (rw [inB_iff] at *; omega))))
    have H2 := Lib.hid (bool_f h2)
    clear h2
    go_enter Try.func92, Try.ntmps92
    go_wp2_with fail
    refine (implId _ true _ H0.out).mono ?_
    rintro e wq0 ⟨rfl, rfl⟩
    go_wp2_with fail
    refine (implWordV _ true _ H1.out).mono ?_
    rintro e wq1 ⟨rfl, rfl⟩
    go_wp2_with fail
    refine (implPlace _ _ false _ H2.out).mono ?_
    rintro e wq2 ⟨rfl, rfl⟩
    go_wp2
    go_ret
    exact ⟨ret_bool (by first | exact HG.out.symm | (rw [HG.out]; simp; omega)), (Below.refl _ _).alloc (Nat.le_refl _) _⟩
  have H2 := Lib.hid h2
  clear h2
  by_cases h3 : inB s.pUntil 0 1000000 = true
  case neg =>
    have HG := Lib.hid (goodS_no (s := s) (fun g => h3 (by obtain ⟨g0, g1, g2, g3, g4, g5, g6, g7⟩ := g; first | assumption | (rw [inB_iff] at *; omega))))
    have H3 := Lib.hid (bool_f h3)
    clear h3
    go_enter Try.func92, Try.ntmps92
    go_wp2_with fail
    refine (implId _ true _ H0.out).mono ?_
    rintro e wq0 ⟨rfl, rfl⟩
    go_wp2_with fail
    refine (implWordV _ true _ H1.out).mono ?_
    rintro e wq1 ⟨rfl, rfl⟩
    go_wp2_with fail
    refine (implPlace _ _ true _ H2.out).mono ?_
    rintro e wq2 ⟨rfl, rfl⟩
    go_wp2_with fail
    refine (implTick _ false _ H3.out).mono ?_
    rintro e wq3 ⟨rfl, rfl⟩
    go_wp2
    go_ret
    exact ⟨ret_bool (by first | exact HG.out.symm | (rw [HG.out]; simp; omega)), (Below.refl _ _).alloc (Nat.le_refl _) _⟩
  have H3 := Lib.hid h3
  have b3 := inB_iff.1 h3
  obtain ⟨b3, b3'⟩ := b3
  clear h3
  by_cases h4 : 1 ≤ s.pGain
  case neg =>
    have HG := Lib.hid (goodS_no (s := s) (fun g => h4 (by obtain ⟨g0, g1, g2, g3, g4, g5, g6, g7⟩ := g; first | assumption | (rw [inB_iff] at *; omega))))
    go_enter Try.func92, Try.ntmps92
    go_wp2_with fail
    refine (implId _ true _ H0.out).mono ?_
    rintro e wq0 ⟨rfl, rfl⟩
    go_wp2_with fail
    refine (implWordV _ true _ H1.out).mono ?_
    rintro e wq1 ⟨rfl, rfl⟩
    go_wp2_with fail
    refine (implPlace _ _ true _ H2.out).mono ?_
    rintro e wq2 ⟨rfl, rfl⟩
    go_wp2_with fail
    refine (implTick _ true _ H3.out).mono ?_
    rintro e wq3 ⟨rfl, rfl⟩
    go_wp2
    go_ret
    exact ⟨ret_bool (by first | exact HG.out.symm | (rw [HG.out]; simp; omega)), (Below.refl _ _).alloc (Nat.le_refl _) _⟩
  by_cases h5 : s.pGain ≤ 10000
  case neg =>
    have HG := Lib.hid (goodS_no (s := s) (fun g => h5 (by obtain ⟨g0, g1, g2, g3, g4, g5, g6, g7⟩ := g; first | assumption | (rw [inB_iff] at *; omega))))
    go_enter Try.func92, Try.ntmps92
    go_wp2_with fail
    refine (implId _ true _ H0.out).mono ?_
    rintro e wq0 ⟨rfl, rfl⟩
    go_wp2_with fail
    refine (implWordV _ true _ H1.out).mono ?_
    rintro e wq1 ⟨rfl, rfl⟩
    go_wp2_with fail
    refine (implPlace _ _ true _ H2.out).mono ?_
    rintro e wq2 ⟨rfl, rfl⟩
    go_wp2_with fail
    refine (implTick _ true _ H3.out).mono ?_
    rintro e wq3 ⟨rfl, rfl⟩
    go_wp2
    go_ret
    exact ⟨ret_bool (by first | exact HG.out.symm | (rw [HG.out]; simp; omega)), (Below.refl _ _).alloc (Nat.le_refl _) _⟩
  by_cases h6 : inB s.pLow 1 5000 = true
  case neg =>
    have HG := Lib.hid (goodS_no (s := s) (fun g => h6 (by obtain ⟨g0, g1, g2, g3, g4, g5, g6, g7⟩ := g; first | assumption | (rw [inB_iff] at *; omega))))
    have H6 := Lib.hid (bool_f h6)
    clear h6
    go_enter Try.func92, Try.ntmps92
    go_wp2_with fail
    refine (implId _ true _ H0.out).mono ?_
    rintro e wq0 ⟨rfl, rfl⟩
    go_wp2_with fail
    refine (implWordV _ true _ H1.out).mono ?_
    rintro e wq1 ⟨rfl, rfl⟩
    go_wp2_with fail
    refine (implPlace _ _ true _ H2.out).mono ?_
    rintro e wq2 ⟨rfl, rfl⟩
    go_wp2_with fail
    refine (implTick _ true _ H3.out).mono ?_
    rintro e wq3 ⟨rfl, rfl⟩
    go_wp2_with fail
    refine (implFreq _ false _ H6.out).mono ?_
    rintro e wq6 ⟨rfl, rfl⟩
    go_wp2
    go_ret
    exact ⟨ret_bool (by first | exact HG.out.symm | (rw [HG.out]; simp; omega)), (Below.refl _ _).alloc (Nat.le_refl _) _⟩
  have H6 := Lib.hid h6
  have b6 := inB_iff.1 h6
  obtain ⟨b6, b6'⟩ := b6
  clear h6
  by_cases h7 : inB s.pHigh 1 5000 = true
  case neg =>
    have HG := Lib.hid (goodS_no (s := s) (fun g => h7 (by obtain ⟨g0, g1, g2, g3, g4, g5, g6, g7⟩ := g; first | assumption | (rw [inB_iff] at *; omega))))
    have H7 := Lib.hid (bool_f h7)
    clear h7
    go_enter Try.func92, Try.ntmps92
    go_wp2_with fail
    refine (implId _ true _ H0.out).mono ?_
    rintro e wq0 ⟨rfl, rfl⟩
    go_wp2_with fail
    refine (implWordV _ true _ H1.out).mono ?_
    rintro e wq1 ⟨rfl, rfl⟩
    go_wp2_with fail
    refine (implPlace _ _ true _ H2.out).mono ?_
    rintro e wq2 ⟨rfl, rfl⟩
    go_wp2_with fail
    refine (implTick _ true _ H3.out).mono ?_
    rintro e wq3 ⟨rfl, rfl⟩
    go_wp2_with fail
    refine (implFreq _ true _ H6.out).mono ?_
    rintro e wq6 ⟨rfl, rfl⟩
    go_wp2_with fail
    refine (implFreq _ false _ H7.out).mono ?_
    rintro e wq7 ⟨rfl, rfl⟩
    go_wp2
    go_ret
    exact ⟨ret_bool (by first | exact HG.out.symm | (rw [HG.out]; simp; omega)), (Below.refl _ _).alloc (Nat.le_refl _) _⟩
  have H7 := Lib.hid h7
  have b7 := inB_iff.1 h7
  obtain ⟨b7, b7'⟩ := b7
  clear h7
  by_cases h8 : s.pLow < s.pHigh
  case neg =>
    have HG := Lib.hid (goodS_no (s := s) (fun g => h8 (by obtain ⟨g0, g1, g2, g3, g4, g5, g6, g7⟩ := g; first | assumption | (rw [inB_iff] at *; omega))))
    go_enter Try.func92, Try.ntmps92
    go_wp2_with fail
    refine (implId _ true _ H0.out).mono ?_
    rintro e wq0 ⟨rfl, rfl⟩
    go_wp2_with fail
    refine (implWordV _ true _ H1.out).mono ?_
    rintro e wq1 ⟨rfl, rfl⟩
    go_wp2_with fail
    refine (implPlace _ _ true _ H2.out).mono ?_
    rintro e wq2 ⟨rfl, rfl⟩
    go_wp2_with fail
    refine (implTick _ true _ H3.out).mono ?_
    rintro e wq3 ⟨rfl, rfl⟩
    go_wp2_with fail
    refine (implFreq _ true _ H6.out).mono ?_
    rintro e wq6 ⟨rfl, rfl⟩
    go_wp2_with fail
    refine (implFreq _ true _ H7.out).mono ?_
    rintro e wq7 ⟨rfl, rfl⟩
    go_wp2
    go_ret
    exact ⟨ret_bool (by first | exact HG.out.symm | (rw [HG.out]; simp; omega)), (Below.refl _ _).alloc (Nat.le_refl _) _⟩
  have HG := Lib.hid (goodS_mk H0.out H1.out H2.out H3.out (inB_yes ⟨h4, h5⟩) H6.out H7.out h8)
  go_enter Try.func92, Try.ntmps92
  go_wp2_with fail
  refine (implId _ true _ H0.out).mono ?_
  rintro e wq0 ⟨rfl, rfl⟩
  go_wp2_with fail
  refine (implWordV _ true _ H1.out).mono ?_
  rintro e wq1 ⟨rfl, rfl⟩
  go_wp2_with fail
  refine (implPlace _ _ true _ H2.out).mono ?_
  rintro e wq2 ⟨rfl, rfl⟩
  go_wp2_with fail
  refine (implTick _ true _ H3.out).mono ?_
  rintro e wq3 ⟨rfl, rfl⟩
  go_wp2_with fail
  refine (implFreq _ true _ H6.out).mono ?_
  rintro e wq6 ⟨rfl, rfl⟩
  go_wp2_with fail
  refine (implFreq _ true _ H7.out).mono ?_
  rintro e wq7 ⟨rfl, rfl⟩
  go_wp2
  go_ret
  exact ⟨ret_bool (by first | exact HG.out.symm | (rw [HG.out]; simp; omega)), (Below.refl _ _).alloc (Nat.le_refl _) _⟩

set_option maxHeartbeats 1000000 in
theorem specOne (s : GStation) (hw : wfStation s) (v : Bool) (w : World) (hv : goodS s = v) :
    Calls Try.prog 90 #[.agg #[.int .i64 s.pId, .string s.pName, .int .i64 s.pX, .int .i64 s.pY, .int .i64 s.pGain, .int .i64 s.pLow, .int .i64 s.pHigh, .int .i64 s.pUntil]] w fun e w' => e = .returned (.bool v) ∧ Below w.heap.size w w' := by
  subst hv
  have hnm : (s.pName.size : Int) ≤ 9223372036854775807 := hw.2.1
  by_cases h0 : inB s.pId 1 99 = true
  case neg =>
    have HG := Lib.hid (goodS_no (s := s) (fun g => h0 (by obtain ⟨g0, g1, g2, g3, g4, g5, g6, g7⟩ := g; first | assumption | (rw [inB_iff] at *; omega))))
    have H0 := Lib.hid (bool_f h0)
    clear h0
    go_enter Try.func90, Try.ntmps90
    go_wp2_with fail
    refine (specIn _ _ _ false _ H0.out).mono ?_
    rintro e wq0 ⟨rfl, rfl⟩
    go_wp2
    go_ret
    exact ⟨ret_bool (by first | exact HG.out.symm | (rw [HG.out]; simp; omega)), (Below.refl _ _).alloc (Nat.le_refl _) _⟩
  have H0 := Lib.hid h0
  have b0 := inB_iff.1 h0
  obtain ⟨b0, b0'⟩ := b0
  clear h0
  by_cases h1 : goodW s.pName = true
  case neg =>
    have HG := Lib.hid (goodS_no (s := s) (fun g => h1 (by obtain ⟨g0, g1, g2, g3, g4, g5, g6, g7⟩ := g; first | assumption | (rw [inB_iff] at *; omega))))
    have H1 := Lib.hid (bool_f h1)
    clear h1
    go_enter Try.func90, Try.ntmps90
    go_wp2_with fail
    refine (specIn _ _ _ true _ H0.out).mono ?_
    rintro e wq0 ⟨rfl, rfl⟩
    go_wp2_with fail
    refine (specWordV _ false _ hnm H1.out).mono ?_
    rintro e wq1 ⟨rfl, rfl⟩
    go_wp2
    go_ret
    exact ⟨ret_bool (by first | exact HG.out.symm | (rw [HG.out]; simp; omega)), (Below.refl _ _).alloc (Nat.le_refl _) _⟩
  have H1 := Lib.hid h1
  clear h1
  by_cases h2 : plcB s.pX s.pY = true
  case neg =>
    have HG := Lib.hid (goodS_no (s := s) (fun g => h2 (by obtain ⟨g0, g1, g2, g3, g4, g5, g6, g7⟩ := g; first | assumption | (rw [inB_iff] at *; omega))))
    have H2 := Lib.hid (bool_f h2)
    clear h2
    go_enter Try.func90, Try.ntmps90
    go_wp2_with fail
    refine (specIn _ _ _ true _ H0.out).mono ?_
    rintro e wq0 ⟨rfl, rfl⟩
    go_wp2_with fail
    refine (specWordV _ true _ hnm H1.out).mono ?_
    rintro e wq1 ⟨rfl, rfl⟩
    go_wp2_with fail
    refine (specPlace _ _ false _ H2.out).mono ?_
    rintro e wq2 ⟨rfl, rfl⟩
    go_wp2
    go_ret
    exact ⟨ret_bool (by first | exact HG.out.symm | (rw [HG.out]; simp; omega)), (Below.refl _ _).alloc (Nat.le_refl _) _⟩
  have H2 := Lib.hid h2
  clear h2
  by_cases h3 : inB s.pGain 1 10000 = true
  case neg =>
    have HG := Lib.hid (goodS_no (s := s) (fun g => h3 (by obtain ⟨g0, g1, g2, g3, g4, g5, g6, g7⟩ := g; first | assumption | (rw [inB_iff] at *; omega))))
    have H3 := Lib.hid (bool_f h3)
    clear h3
    go_enter Try.func90, Try.ntmps90
    go_wp2_with fail
    refine (specIn _ _ _ true _ H0.out).mono ?_
    rintro e wq0 ⟨rfl, rfl⟩
    go_wp2_with fail
    refine (specWordV _ true _ hnm H1.out).mono ?_
    rintro e wq1 ⟨rfl, rfl⟩
    go_wp2_with fail
    refine (specPlace _ _ true _ H2.out).mono ?_
    rintro e wq2 ⟨rfl, rfl⟩
    go_wp2_with fail
    refine (specIn _ _ _ false _ H3.out).mono ?_
    rintro e wq3 ⟨rfl, rfl⟩
    go_wp2
    go_ret
    exact ⟨ret_bool (by first | exact HG.out.symm | (rw [HG.out]; simp; omega)), (Below.refl _ _).alloc (Nat.le_refl _) _⟩
  have H3 := Lib.hid h3
  have b3 := inB_iff.1 h3
  obtain ⟨b3, b3'⟩ := b3
  clear h3
  by_cases h4 : inB s.pHigh 1 5000 = true
  case neg =>
    have HG := Lib.hid (goodS_no (s := s) (fun g => h4 (by obtain ⟨g0, g1, g2, g3, g4, g5, g6, g7⟩ := g; first | assumption | (rw [inB_iff] at *; omega))))
    have H4 := Lib.hid (bool_f h4)
    clear h4
    go_enter Try.func90, Try.ntmps90
    go_wp2_with fail
    refine (specIn _ _ _ true _ H0.out).mono ?_
    rintro e wq0 ⟨rfl, rfl⟩
    go_wp2_with fail
    refine (specWordV _ true _ hnm H1.out).mono ?_
    rintro e wq1 ⟨rfl, rfl⟩
    go_wp2_with fail
    refine (specPlace _ _ true _ H2.out).mono ?_
    rintro e wq2 ⟨rfl, rfl⟩
    go_wp2_with fail
    refine (specIn _ _ _ true _ H3.out).mono ?_
    rintro e wq3 ⟨rfl, rfl⟩
    go_wp2_with fail
    refine (specFreq _ false _ H4.out).mono ?_
    rintro e wq4 ⟨rfl, rfl⟩
    go_wp2
    go_ret
    exact ⟨ret_bool (by first | exact HG.out.symm | (rw [HG.out]; simp; omega)), (Below.refl _ _).alloc (Nat.le_refl _) _⟩
  have H4 := Lib.hid h4
  have b4 := inB_iff.1 h4
  obtain ⟨b4, b4'⟩ := b4
  clear h4
  by_cases h5 : inB s.pLow 1 (s.pHigh - 1) = true
  case neg =>
    have HG := Lib.hid (goodS_no (s := s) (fun g => h5 (by obtain ⟨g0, g1, g2, g3, g4, g5, g6, g7⟩ := g; first | assumption | (rw [inB_iff] at *; omega))))
    have H5 := Lib.hid (bool_f h5)
    clear h5
    go_enter Try.func90, Try.ntmps90
    go_wp2_with fail
    refine (specIn _ _ _ true _ H0.out).mono ?_
    rintro e wq0 ⟨rfl, rfl⟩
    go_wp2_with fail
    refine (specWordV _ true _ hnm H1.out).mono ?_
    rintro e wq1 ⟨rfl, rfl⟩
    go_wp2_with fail
    refine (specPlace _ _ true _ H2.out).mono ?_
    rintro e wq2 ⟨rfl, rfl⟩
    go_wp2_with fail
    refine (specIn _ _ _ true _ H3.out).mono ?_
    rintro e wq3 ⟨rfl, rfl⟩
    go_wp2_with fail
    refine (specFreq _ true _ H4.out).mono ?_
    rintro e wq4 ⟨rfl, rfl⟩
    go_wp2_with fail
    refine (specIn _ _ _ false _ H5.out).mono ?_
    rintro e wq5 ⟨rfl, rfl⟩
    go_wp2
    go_ret
    exact ⟨ret_bool (by first | exact HG.out.symm | (rw [HG.out]; simp; omega)), (Below.refl _ _).alloc (Nat.le_refl _) _⟩
  have H5 := Lib.hid h5
  have b5 := inB_iff.1 h5
  obtain ⟨b5, b5'⟩ := b5
  clear h5
  by_cases h6 : inB s.pUntil 0 1000000 = true
  case neg =>
    have HG := Lib.hid (goodS_no (s := s) (fun g => h6 (by obtain ⟨g0, g1, g2, g3, g4, g5, g6, g7⟩ := g; first | assumption | (rw [inB_iff] at *; omega))))
    have H6 := Lib.hid (bool_f h6)
    clear h6
    go_enter Try.func90, Try.ntmps90
    go_wp2_with fail
    refine (specIn _ _ _ true _ H0.out).mono ?_
    rintro e wq0 ⟨rfl, rfl⟩
    go_wp2_with fail
    refine (specWordV _ true _ hnm H1.out).mono ?_
    rintro e wq1 ⟨rfl, rfl⟩
    go_wp2_with fail
    refine (specPlace _ _ true _ H2.out).mono ?_
    rintro e wq2 ⟨rfl, rfl⟩
    go_wp2_with fail
    refine (specIn _ _ _ true _ H3.out).mono ?_
    rintro e wq3 ⟨rfl, rfl⟩
    go_wp2_with fail
    refine (specFreq _ true _ H4.out).mono ?_
    rintro e wq4 ⟨rfl, rfl⟩
    go_wp2_with fail
    refine (specIn _ _ _ true _ H5.out).mono ?_
    rintro e wq5 ⟨rfl, rfl⟩
    go_wp2_with fail
    refine (specTick _ false _ H6.out).mono ?_
    rintro e wq6 ⟨rfl, rfl⟩
    go_wp2
    go_ret
    exact ⟨ret_bool (by first | exact HG.out.symm | (rw [HG.out]; simp; omega)), (Below.refl _ _).alloc (Nat.le_refl _) _⟩
  have H6 := Lib.hid h6
  have b6 := inB_iff.1 h6
  obtain ⟨b6, b6'⟩ := b6
  clear h6
  have HG := Lib.hid (goodS_mk H0.out H1.out H2.out H6.out H3.out (inB_yes (by omega)) H4.out (by omega))
  go_enter Try.func90, Try.ntmps90
  go_wp2_with fail
  refine (specIn _ _ _ true _ H0.out).mono ?_
  rintro e wq0 ⟨rfl, rfl⟩
  go_wp2_with fail
  refine (specWordV _ true _ hnm H1.out).mono ?_
  rintro e wq1 ⟨rfl, rfl⟩
  go_wp2_with fail
  refine (specPlace _ _ true _ H2.out).mono ?_
  rintro e wq2 ⟨rfl, rfl⟩
  go_wp2_with fail
  refine (specIn _ _ _ true _ H3.out).mono ?_
  rintro e wq3 ⟨rfl, rfl⟩
  go_wp2_with fail
  refine (specFreq _ true _ H4.out).mono ?_
  rintro e wq4 ⟨rfl, rfl⟩
  go_wp2_with fail
  refine (specIn _ _ _ true _ H5.out).mono ?_
  rintro e wq5 ⟨rfl, rfl⟩
  go_wp2_with fail
  refine (specTick _ true _ H6.out).mono ?_
  rintro e wq6 ⟨rfl, rfl⟩
  go_wp2
  go_ret
  exact ⟨ret_bool (by first | exact HG.out.symm | (rw [HG.out]; simp; omega)), (Below.refl _ _).alloc (Nat.le_refl _) _⟩

theorem implIsSt (s : GStation) (v : Value) (w : World) (B : Nat) (h : StationVL w B v s) (_ : B ≤ w.heap.size) (_ : sz1Station s ≤ 1048576) (hw : wfStation s) :
    Calls Try.prog 92 #[v] w fun e w' => e = .returned (.bool (goodS s)) ∧ Below w.heap.size w w' := by
  obtain rfl := h.form
  exact implOne s hw (goodS s) w rfl
end Go.Proofs.Ytklilfbokpljkab
