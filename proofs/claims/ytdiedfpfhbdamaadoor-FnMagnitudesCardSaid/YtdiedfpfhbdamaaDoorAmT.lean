/- Amplitudes: a magnitude's text. -/
import Derived.Test.YtdiedfpfhbdamaaDoorAnA
import Derived.Test.YtdiedfpfhbdamaaDoorNum
import Derived.Test.YtdiedfpfhbdamaaDoorTab
import Derived.Test.YtdiedfpfhbdamaaDoorShelf
namespace Go.Proofs.YtdiedfpfhbdamaaDoor
open Go.ChangeShapes Go.WideShapes Go.ChangeAt Go.RowKit Go.ChangeMaps Go.Sort
set_option linter.unusedSimpArgs false
set_option linter.unusedVariables false
set_option linter.unusedSimpArgs false
set_option linter.unusedVariables false

def tenthM (m : Int) : Int := (max m (-m) + 5) / 10
def signM (m : Int) : Bool := decide (m < 0) && decide (0 < tenthM m)
def headM (m : Int) : ByteArray := if signM m then ⟨#[77, 32]⟩ ++ ⟨#[45]⟩ else ⟨#[77, 32]⟩
def textM (m : Int) : ByteArray := headM m ++ numB (tenthM m / 10) ++ ⟨#[46]⟩ ++ numB (tenthM m % 10)
def okMt (m : Int) : Bool := inB m (-1000) 2000
def strMt (m : Int) : ByteArray := if okMt m then textM m else .empty
theorem strMt_no {m : Int} (h : okMt m = false) : strMt m = .empty := by unfold strMt; rw [h]; rfl
theorem strMt_yes {m : Int} (h : okMt m = true) : strMt m = textM m := by unfold strMt; rw [h]; rfl
theorem retS {a b : ByteArray} {c d : Bool} (h : a = b) (g : c = d) : Ending.returned (.tuple #[.string a, .bool c]) = .returned (.tuple #[.string b, .bool d]) := by rw [h, g]
theorem itoaM (n : Int) (h0 : -1000000000 ≤ n) (h1 : n ≤ 1000000000) (w : World) (hp : Pow10 w) :
    Calls Tryd.prog 44 #[.int .i64 n] w fun e w' => e = .returned (.string (numB n)) ∧ Below w.heap.size w w' := by
  refine (Tryd.strconv_Itoa n (by omega) (by omega) w hp).mono ?_
  rintro e w' ⟨rfl, k, os, rfl⟩
  exact ⟨rfl, below_grew _ _ _⟩
theorem implAbs (n a : Int) (w : World) (h : max n (-n) = a) (h0 : -1000000000 ≤ n) (h1 : n ≤ 1000000000) :
    Calls Tryd.prog 43 #[.int .i64 n] w fun e w' => e = .returned (.int .i64 a) ∧ w' = w := by
  by_cases q : n < 0
  · have HF := Lib.hid (show -n = a by omega)
    have s1 : IntKind.i64.wrap (-n) = -n := IntWalk.i64_in _ (by omega)
    clear h
    go_enter Tryd.func43, Tryd.ntmps43
    go_wp2
    go_ret
    exact ⟨ret_int (by have := HF.out; first | exact HF.out | (simp only [wrap64]; omega)), rfl⟩
  · have HF := Lib.hid (show n = a by omega)
    clear h
    go_enter Tryd.func43, Tryd.ntmps43
    go_wp2
    go_ret
    exact ⟨ret_int HF.out, rfl⟩
theorem numB_len (n : Int) (h0 : 0 ≤ n) (h1 : n ≤ 1000000) : (numB n).size ≤ 10 := by
  obtain ⟨u, hu⟩ : ∃ u : Nat, n = (u : Int) := ⟨n.toNat, by omega⟩
  subst hu
  rw [numB_pos]
  exact dec_size u (by omega)
set_option maxHeartbeats 1000000 in
theorem specMt (m : Int) (w : World) (B : Nat) (_ : B ≤ w.heap.size) (hm : I64 m) :
    Calls Tryd.prog 20 #[.int .i64 m] w fun e w' => e = .returned (.tuple #[.string (strMt m), .bool (okMt m)]) ∧ Below w.heap.size w w' := by
  cases hk : okMt m with
  | false =>
    have C := Lib.hid (specIn m (-1000) 2000 false w hk)
    rw [strMt_no hk]
    clear hk
    go_enter Tryd.func20, Tryd.ntmps20
    go_wp2_with fail
    refine C.out.mono ?_
    rintro e w1 ⟨rfl, rfl⟩
    go_wp2
    go_ret2
    exact ⟨rfl, Below.refl _ _⟩
  | true =>
    obtain ⟨m0, m1⟩ := inB_iff.1 hk
    have C := Lib.hid (specIn m (-1000) 2000 true w hk)
    have HT := Lib.hid (strMt_yes hk)
    obtain ⟨a, ha⟩ : ∃ a, max m (-m) = a := ⟨_, rfl⟩
    have CA := Lib.hid (fun W => mostF m (-m) a W ha)
    obtain ⟨t, ht⟩ : ∃ t, (a + 5) / 10 = t := ⟨_, rfl⟩
    have htm : tenthM m = t := by unfold tenthM; rw [ha, ht]
    have a0 : 0 ≤ a := by omega
    have a1 : a ≤ 2000 := by omega
    have t0 : 0 ≤ t := by omega
    have t1 : t ≤ 201 := by omega
    have d1 : (a + 5).tdiv 10 = t := by rw [Int.tdiv_eq_ediv_of_nonneg (by omega)]; exact ht
    have d2 : t.tdiv 10 = t / 10 := Int.tdiv_eq_ediv_of_nonneg t0
    have d3 : t.tmod 10 = t % 10 := Int.tmod_eq_emod_of_nonneg t0
    have CQ := Lib.hid (fun W => l1Num_any (t / 10) (by omega) (by omega) W)
    have CR := Lib.hid (fun W => l1Num_any (t % 10) (by omega) (by omega) W)
    have z1 := numB_len (t / 10) (by omega) (by omega)
    have z2 := numB_len (t % 10) (by omega) (by omega)
    have s1 : IntKind.i64.wrap (a + 5) = a + 5 := IntWalk.i64_in _ (by omega)
    have s2 : IntKind.i64.wrap t = t := IntWalk.i64_in _ (by omega)
    have s3 : IntKind.i64.wrap (t / 10) = t / 10 := IntWalk.i64_in _ (by omega)
    have s4 : IntKind.i64.wrap (t % 10) = t % 10 := IntWalk.i64_in _ (by omega)
    have s5 : IntKind.i64.wrap (-m) = -m := IntWalk.i64_in _ (by omega)
    by_cases hs : m < 0 ∧ 0 < t
    · have hsm : signM m = true := by unfold signM; rw [htm, decide_eq_true hs.1, decide_eq_true hs.2]; rfl
      have hh : textM m = ((⟨#[77, 32]⟩ ++ ⟨#[45]⟩) ++ numB (t / 10) ++ ⟨#[46]⟩ ++ numB (t % 10)) := by unfold textM headM; rw [hsm, htm]; rfl
      rw [HT.out, hh]
      obtain ⟨g1, g2⟩ := hs
      have g3 : decide (m < 0) = true := decide_eq_true g1
      clear hk hsm hh ha ht htm
      generalize numB (t / 10) = n1 at *
      generalize numB (t % 10) = n2 at *
      go_enter Tryd.func20, Tryd.ntmps20
      go_wp2_with fail
      refine C.out.mono ?_
      rintro e w1 ⟨rfl, rfl⟩
      go_wp2_with fail
      refine (CA.out _).mono ?_
      rintro e w1 ⟨rfl, rfl⟩
      go_wp2_with fail
      refine (CQ.out _).mono ?_
      rintro e w2 ⟨rfl, q2, rfl⟩
      go_wp2_with fail
      refine (CR.out _).mono ?_
      rintro e w3 ⟨rfl, q3, rfl⟩
      go_wp2
      go_ret2
      exact ⟨rfl, drewN_b (Below.refl _ _) _⟩
    · have hsm : signM m = false := by
        unfold signM; rw [htm]
        rw [Bool.and_eq_false_iff]
        by_cases q : m < 0
        · right; exact decide_eq_false (fun g => hs ⟨q, g⟩)
        · left; exact decide_eq_false q
      have hh : textM m = (⟨#[77, 32]⟩ ++ numB (t / 10) ++ ⟨#[46]⟩ ++ numB (t % 10)) := by unfold textM headM; rw [hsm, htm]; rfl
      rw [HT.out, hh]
      clear hk hsm hh ha ht htm
      generalize numB (t / 10) = n1 at *
      generalize numB (t % 10) = n2 at *
      have hs2 : ¬ m < 0 ∨ (m < 0 ∧ ¬ 0 < t) := by omega
      clear hs
      rcases hs2 with g1 | ⟨g1, g2⟩
      · have g3 : decide (m < 0) = false := decide_eq_false g1
        go_enter Tryd.func20, Tryd.ntmps20
        go_wp2_with fail
        refine C.out.mono ?_
        rintro e w1 ⟨rfl, rfl⟩
        go_wp2_with fail
        refine (CA.out _).mono ?_
        rintro e w1 ⟨rfl, rfl⟩
        go_wp2_with fail
        refine (CQ.out _).mono ?_
        rintro e w2 ⟨rfl, q2, rfl⟩
        go_wp2_with fail
        refine (CR.out _).mono ?_
        rintro e w3 ⟨rfl, q3, rfl⟩
        go_wp2
        go_ret2
        exact ⟨rfl, drewN_b (Below.refl _ _) _⟩
      · have g3 : decide (m < 0) = true := decide_eq_true g1
        go_enter Tryd.func20, Tryd.ntmps20
        go_wp2_with fail
        refine C.out.mono ?_
        rintro e w1 ⟨rfl, rfl⟩
        go_wp2_with fail
        refine (CA.out _).mono ?_
        rintro e w1 ⟨rfl, rfl⟩
        go_wp2_with fail
        refine (CQ.out _).mono ?_
        rintro e w2 ⟨rfl, q2, rfl⟩
        go_wp2_with fail
        refine (CR.out _).mono ?_
        rintro e w3 ⟨rfl, q3, rfl⟩
        go_wp2
        go_ret2
        exact ⟨rfl, drewN_b (Below.refl _ _) _⟩
set_option maxHeartbeats 1000000 in
theorem implMt (m : Int) (w : World) (B : Nat) (hp : Pow10 w) (_ : B ≤ w.heap.size) (hm : I64 m) :
    Calls Tryd.prog 19 #[.int .i64 m] w fun e w' => e = .returned (.tuple #[.string (strMt m), .bool (okMt m)]) ∧ Below w.heap.size w w' := by
  have HP := Lib.hid hp
  clear hp
  cases hk : okMt m with
  | false =>
    have C := Lib.hid (implMgn m false w hk)
    rw [strMt_no hk]
    clear hk
    go_enter Tryd.func19, Tryd.ntmps19
    go_wp2_with fail
    refine C.out.mono ?_
    rintro e w1 ⟨rfl, hb1⟩
    go_wp2
    go_ret2
    exact ⟨rfl, hb1⟩
  | true =>
    obtain ⟨m0, m1⟩ := inB_iff.1 hk
    have C := Lib.hid (implMgn m true w hk)
    have HT := Lib.hid (strMt_yes hk)
    obtain ⟨a, ha⟩ : ∃ a, max m (-m) = a := ⟨_, rfl⟩
    have CA := Lib.hid (fun W => implAbs m a W ha (by omega) (by omega))
    obtain ⟨t, ht⟩ : ∃ t, (a + 5) / 10 = t := ⟨_, rfl⟩
    have htm : tenthM m = t := by unfold tenthM; rw [ha, ht]
    have a0 : 0 ≤ a := by omega
    have a1 : a ≤ 2000 := by omega
    have t0 : 0 ≤ t := by omega
    have t1 : t ≤ 201 := by omega
    have d1 : (a + 5).tdiv 10 = t := by rw [Int.tdiv_eq_ediv_of_nonneg (by omega)]; exact ht
    have d2 : t.tdiv 10 = t / 10 := Int.tdiv_eq_ediv_of_nonneg t0
    have d3 : t.tmod 10 = t % 10 := Int.tmod_eq_emod_of_nonneg t0
    have CQ := Lib.hid (fun W hq => itoaM (t / 10) (by omega) (by omega) W hq)
    have CR := Lib.hid (fun W hq => itoaM (t % 10) (by omega) (by omega) W hq)
    have z1 := numB_len (t / 10) (by omega) (by omega)
    have z2 := numB_len (t % 10) (by omega) (by omega)
    have s1 : IntKind.i64.wrap (a + 5) = a + 5 := IntWalk.i64_in _ (by omega)
    have s2 : IntKind.i64.wrap t = t := IntWalk.i64_in _ (by omega)
    have s3 : IntKind.i64.wrap (t / 10) = t / 10 := IntWalk.i64_in _ (by omega)
    have s4 : IntKind.i64.wrap (t % 10) = t % 10 := IntWalk.i64_in _ (by omega)
    have s5 : IntKind.i64.wrap (-m) = -m := IntWalk.i64_in _ (by omega)
    by_cases hs : m < 0 ∧ 0 < t
    · have hsm : signM m = true := by unfold signM; rw [htm, decide_eq_true hs.1, decide_eq_true hs.2]; rfl
      have hh : textM m = ((⟨#[77, 32]⟩ ++ ⟨#[45]⟩) ++ numB (t / 10) ++ ⟨#[46]⟩ ++ numB (t % 10)) := by unfold textM headM; rw [hsm, htm]; rfl
      rw [HT.out, hh]
      obtain ⟨g1, g2⟩ := hs
      have g3 : decide (m < 0) = true := decide_eq_true g1
      clear hk hsm hh ha ht htm
      generalize numB (t / 10) = n1 at *
      generalize numB (t % 10) = n2 at *
      go_enter Tryd.func19, Tryd.ntmps19
      go_wp2_with fail
      refine C.out.mono ?_
      rintro e w1 ⟨rfl, hb1⟩
      go_wp2_with fail
      refine (CA.out _).mono ?_
      rintro e w9 ⟨rfl, q9⟩
      subst q9
      go_wp2_with fail
      refine (CQ.out _ (pow10_below HP.out hb1)).mono ?_
      rintro e w2 ⟨rfl, hb2⟩
      have hb12 := hb1.trans (hb2.mono hb1.size)
      go_wp2_with fail
      refine (CR.out _ (pow10_below HP.out hb12)).mono ?_
      rintro e w3 ⟨rfl, hb3⟩
      go_wp2
      go_ret2
      exact ⟨rfl, hb12.trans (hb3.mono hb12.size)⟩
    · have hsm : signM m = false := by
        unfold signM; rw [htm]
        rw [Bool.and_eq_false_iff]
        by_cases q : m < 0
        · right; exact decide_eq_false (fun g => hs ⟨q, g⟩)
        · left; exact decide_eq_false q
      have hh : textM m = (⟨#[77, 32]⟩ ++ numB (t / 10) ++ ⟨#[46]⟩ ++ numB (t % 10)) := by unfold textM headM; rw [hsm, htm]; rfl
      rw [HT.out, hh]
      clear hk hsm hh ha ht htm
      generalize numB (t / 10) = n1 at *
      generalize numB (t % 10) = n2 at *
      have hs2 : ¬ m < 0 ∨ (m < 0 ∧ ¬ 0 < t) := by omega
      clear hs
      rcases hs2 with g1 | ⟨g1, g2⟩
      · have g3 : decide (m < 0) = false := decide_eq_false g1
        go_enter Tryd.func19, Tryd.ntmps19
        go_wp2_with fail
        refine C.out.mono ?_
        rintro e w1 ⟨rfl, hb1⟩
        go_wp2_with fail
        refine (CA.out _).mono ?_
        rintro e w9 ⟨rfl, q9⟩
        subst q9
        go_wp2_with fail
        refine (CQ.out _ (pow10_below HP.out hb1)).mono ?_
        rintro e w2 ⟨rfl, hb2⟩
        have hb12 := hb1.trans (hb2.mono hb1.size)
        go_wp2_with fail
        refine (CR.out _ (pow10_below HP.out hb12)).mono ?_
        rintro e w3 ⟨rfl, hb3⟩
        go_wp2
        go_ret2
        exact ⟨rfl, hb12.trans (hb3.mono hb12.size)⟩
      · have g3 : decide (m < 0) = true := decide_eq_true g1
        go_enter Tryd.func19, Tryd.ntmps19
        go_wp2_with fail
        refine C.out.mono ?_
        rintro e w1 ⟨rfl, hb1⟩
        go_wp2_with fail
        refine (CA.out _).mono ?_
        rintro e w9 ⟨rfl, q9⟩
        subst q9
        go_wp2_with fail
        refine (CQ.out _ (pow10_below HP.out hb1)).mono ?_
        rintro e w2 ⟨rfl, hb2⟩
        have hb12 := hb1.trans (hb2.mono hb1.size)
        go_wp2_with fail
        refine (CR.out _ (pow10_below HP.out hb12)).mono ?_
        rintro e w3 ⟨rfl, hb3⟩
        go_wp2
        go_ret2
        exact ⟨rfl, hb12.trans (hb3.mono hb12.size)⟩
end Go.Proofs.YtdiedfpfhbdamaaDoor
