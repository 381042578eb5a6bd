/- Speeds: counts over the gain in lowest terms. -/
import Derived.Test.YtklilfbokpljkabStaL
import Derived.Test.YtklilfbokpljkabRed
namespace Go.Proofs.Ytklilfbokpljkab
open Go.ChangeShapes Go.WideShapes Go.ChangeAt Go.RowKit Go.ChangeMaps Go.Sort
set_option linter.unusedSimpArgs false
set_option linter.unusedVariables false

def okSp (s : GStation) (c : Int) : Bool := goodS s && inB c (-100000) 100000
def numSp (s : GStation) (c : Int) : Int := if okSp s c then numR c s.pGain else 0
def denSp (s : GStation) (c : Int) : Int := if okSp s c then denR c s.pGain else 0
theorem okSp_s {s : GStation} {c : Int} (h : ¬ goodS s = true) : okSp s c = false := by unfold okSp; rw [bool_f h]; rfl
theorem okSp_c {s : GStation} {c : Int} (h : inB c (-100000) 100000 = false) : okSp s c = false := by unfold okSp; rw [h, Bool.and_false]
theorem okSp_y {s : GStation} {c : Int} (h : goodS s = true) (g : inB c (-100000) 100000 = true) : okSp s c = true := by unfold okSp; rw [h, g]; rfl
theorem noSp {s : GStation} {c : Int} (h : okSp s c = false) : Ending.returned (.tuple #[.int .i64 0, .int .i64 0, .bool false]) = .returned (.tuple #[.int .i64 (numSp s c), .int .i64 (denSp s c), .bool (okSp s c)]) := by
  unfold numSp denSp; rw [h]; rfl
theorem yesSp {s : GStation} {c a b : Int} (h : okSp s c = true) (ha : a = numR c s.pGain) (hb : b = denR c s.pGain) : Ending.returned (.tuple #[.int .i64 a, .int .i64 b, .bool true]) = .returned (.tuple #[.int .i64 (numSp s c), .int .i64 (denSp s c), .bool (okSp s c)]) := by
  unfold numSp denSp; rw [h, ha, hb]; rfl
theorem gcdR_neg (n d : Int) : gcdR (-n) d = gcdR n d := by unfold gcdR; rw [Int.natAbs_neg]
theorem numR_neg (n d : Int) : numR (-n) d = -numR n d := by unfold numR; rw [gcdR_neg, Int.neg_tdiv]
theorem denR_neg (n d : Int) : denR (-n) d = denR n d := by unfold denR; rw [gcdR_neg]
theorem numR_lo {n d : Int} (h0 : -1000000000000000 ≤ n) (h1 : n ≤ 1000000000000000) : -1000000000000000 ≤ numR n d ∧ numR n d ≤ 1000000000000000 := tdiv_lo n _ h0 h1

set_option maxHeartbeats 1000000 in
theorem implSp (s : GStation) (v : Value) (c : Int) (w : World) (B : Nat) (h : StationVL w B v s) (_ : B ≤ w.heap.size) (_ : sz1Station s ≤ 1048576) (hw : wfStation s) (hc : I64 c) :
    Calls Try.prog 54 #[v, .int .i64 c] w fun e w' => e = .returned (.tuple #[.int .i64 (numSp s c), .int .i64 (denSp s c), .bool (okSp s c)]) ∧ Below w.heap.size w w' := by
  obtain rfl := h.form
  have N1 := (Below.refl w.heap.size w).alloc (Nat.le_refl _) (.cells #[.int .i64 s.pId, .string s.pName, .int .i64 s.pX, .int .i64 s.pY, .int .i64 s.pGain, .int .i64 s.pLow, .int .i64 s.pHigh, .int .i64 s.pUntil] 60)
  have bx := Bx.new w [.int .i64 s.pId, .string s.pName, .int .i64 s.pX, .int .i64 s.pY, .int .i64 s.pGain, .int .i64 s.pLow, .int .i64 s.pHigh, .int .i64 s.pUntil] 60
  by_cases hg : goodS s = true
  case neg =>
    have HG := Lib.hid (okSp_s (c := c) hg)
    have HB := Lib.hid (bool_f hg)
    clear hg
    go_enter Try.func54, Try.ntmps54
    go_wp2_with fail
    refine (implOne s hw false _ HB.out).mono ?_
    rintro e w1 ⟨rfl, hb⟩
    go_wp2
    go_ret3
    exact ⟨noSp HG.out, N1.trans (hb.mono (by simp))⟩
  have gb := goodS_bounds hg
  have HB := Lib.hid hg
  clear hg
  by_cases h1 : -100000 ≤ c
  case neg =>
    have HG := Lib.hid (okSp_c (s := s) (inB_no (x := c) (a := -100000) (b := 100000) (fun g => h1 g.1)))
    go_enter Try.func54, Try.ntmps54
    go_wp2_with fail
    refine (implOne s hw true _ HB.out).mono ?_
    rintro e w1 ⟨rfl, hb⟩
    go_wp2
    go_ret3
    exact ⟨noSp HG.out, N1.trans (hb.mono (by simp))⟩
  by_cases h2 : c ≤ 100000
  case neg =>
    have HG := Lib.hid (okSp_c (s := s) (inB_no (x := c) (a := -100000) (b := 100000) (fun g => h2 g.2)))
    go_enter Try.func54, Try.ntmps54
    go_wp2_with fail
    refine (implOne s hw true _ HB.out).mono ?_
    rintro e w1 ⟨rfl, hb⟩
    go_wp2
    go_ret3
    exact ⟨noSp HG.out, N1.trans (hb.mono (by simp))⟩
  have HG := Lib.hid (okSp_y HB.out (inB_yes ⟨h1, h2⟩))
  go_enter Try.func54, Try.ntmps54
  go_wp2_with fail
  refine (implOne s hw true _ HB.out).mono ?_
  rintro e w1 ⟨rfl, hb⟩
  have bx1 := bx.below hb
  have q4 := bx1.2 4 _ rfl
  have C1 := N1.trans (hb.mono (by simp))
  clear hb
  go_wp2_with fail
  refine (implRed c s.pGain _ (by omega) (by omega) (by omega) (by omega)).mono ?_
  rintro e w2 ⟨rfl, hd⟩
  have C2 := C1.trans (hd.below _)
  go_wp2
  go_ret3
  exact ⟨yesSp HG.out rfl rfl, C2⟩

set_option maxHeartbeats 1000000 in
theorem specSp (s : GStation) (v : Value) (c : Int) (w : World) (B : Nat) (h : StationVL w B v s) (_ : B ≤ w.heap.size) (_ : sz1Station s ≤ 1048576) (hw : wfStation s) (hc : I64 c) :
    Calls Try.prog 52 #[v, .int .i64 c] w fun e w' => e = .returned (.tuple #[.int .i64 (numSp s c), .int .i64 (denSp s c), .bool (okSp s c)]) ∧ Below w.heap.size w w' := by
  obtain rfl := h.form
  have N1 := (Below.refl w.heap.size w).alloc (Nat.le_refl _) (.cells #[.int .i64 s.pId, .string s.pName, .int .i64 s.pX, .int .i64 s.pY, .int .i64 s.pGain, .int .i64 s.pLow, .int .i64 s.pHigh, .int .i64 s.pUntil] 60)
  have bx := Bx.new w [.int .i64 s.pId, .string s.pName, .int .i64 s.pX, .int .i64 s.pY, .int .i64 s.pGain, .int .i64 s.pLow, .int .i64 s.pHigh, .int .i64 s.pUntil] 60
  by_cases hg : goodS s = true
  case neg =>
    have HG := Lib.hid (okSp_s (c := c) hg)
    have HB := Lib.hid (bool_f hg)
    clear hg
    go_enter Try.func52, Try.ntmps52
    go_wp2_with fail
    refine (specOne s hw false _ HB.out).mono ?_
    rintro e w1 ⟨rfl, hb⟩
    go_wp2
    go_ret3
    exact ⟨noSp HG.out, N1.trans (hb.mono (by simp))⟩
  have gb := goodS_bounds hg
  have HB := Lib.hid hg
  clear hg
  by_cases h1 : inB c (-100000) 100000 = true
  case neg =>
    have HG := Lib.hid (okSp_c (s := s) (bool_f h1))
    have HC := Lib.hid (bool_f h1)
    clear h1
    go_enter Try.func52, Try.ntmps52
    go_wp2_with fail
    refine (specOne s hw true _ HB.out).mono ?_
    rintro e w1 ⟨rfl, hb⟩
    go_wp2_with fail
    refine (specIn _ _ _ false _ HC.out).mono ?_
    rintro e w2 ⟨rfl, rfl⟩
    go_wp2
    go_ret3
    exact ⟨noSp HG.out, N1.trans (hb.mono (by simp))⟩
  have HG := Lib.hid (okSp_y HB.out h1)
  obtain ⟨b1, b2⟩ := inB_iff.1 h1
  have HC := Lib.hid h1
  clear h1
  have hneg : IntKind.i64.wrap (-c) = -c := IntWalk.i64_in _ (by omega)
  go_enter Try.func52, Try.ntmps52
  go_wp2_with fail
  refine (specOne s hw true _ HB.out).mono ?_
  rintro e w1 ⟨rfl, hb⟩
  have bx1 := bx.below hb
  have q4 := bx1.2 4 _ rfl
  have C1 := N1.trans (hb.mono (by simp))
  clear hb
  go_wp2_with fail
  refine (specIn _ _ _ true _ HC.out).mono ?_
  rintro e w2 ⟨rfl, rfl⟩
  have HN : Hid (numR c s.pGain = if c < 0 then - numR (ab c) s.pGain else numR (ab c) s.pGain) := Lib.hid (by
    unfold ab; split
    · rw [numR_neg]; omega
    · rfl)
  have HD : Hid (denR c s.pGain = denR (ab c) s.pGain) := Lib.hid (by
    unfold ab; split
    · rw [denR_neg]
    · rfl)
  have hab : 0 ≤ ab c ∧ ab c ≤ 100000 := by unfold ab; split <;> omega
  have hnb := numR_lo (n := ab c) (d := s.pGain) (by omega) (by omega)
  have cm := fun d os => Calls.regrown_of (w := w1) (d := d) (os := os) (v := .int .i64 (ab c)) ((mostB c (-c) (ab c) _ (by unfold ab; split <;> split <;> omega)).mono fun e w' ⟨h, hw⟩ => ⟨h, hw ▸ Below.refl _ _⟩)
  have cr := fun d os => Calls.regrown_of (w := w1) (d := d) (os := os) ((specRed (ab c) s.pGain _ (by omega) (by omega) (by omega) (by omega)).mono fun e w' ⟨h, hd⟩ => ⟨h, hd.below _⟩)
  have r4 := cell_regrown q4
  generalize hA : numR (ab c) s.pGain = A at *
  generalize hD : denR (ab c) s.pGain = D at *
  generalize hac : ab c = ac at *
  clear hA hD hac
  go_wp2
  refine wp_region_quiet_below (by kernel_rfl) (by kernel_rfl) ?_
  repeat (go_big_quiet_step (first | exact cm _ _ | exact cr _ _))
  refine wpQuiet_nil ?_
  intro _ hw'
  obtain ⟨⟨dq, osq⟩, hw''⟩ := hw'
  subst hw''
  have hb3 := below_regrown (w1) dq osq
  generalize grow (redrawn (w1) dq) osq = w3 at *
  have C3 := C1.trans (hb3.mono (by have := C1.size; omega))
  clear cm cr r4 q4 hneg
  by_cases hn : c < 0
  · rw [if_pos hn] at HN
    go_wp2
    go_ret3
    exact ⟨yesSp HG.out HN.out.symm HD.out.symm, C3⟩
  · rw [if_neg hn] at HN
    go_wp2
    go_ret3
    exact ⟨yesSp HG.out HN.out.symm HD.out.symm, C3⟩
end Go.Proofs.Ytklilfbokpljkab
