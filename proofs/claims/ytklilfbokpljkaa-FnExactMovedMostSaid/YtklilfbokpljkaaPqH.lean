/- Picks: the program's small functions. -/
import Derived.Test.YtklilfbokpljkaaPqG
import Derived.Lib.QuietBelow
import Derived.Deep.LoopGhost
namespace Go.Proofs.Ytklilfbokpljkaa
open Go.ChangeShapes Go.WideShapes Go.ChangeAt Go.RowKit Go.ChangeMaps Go.Sort
set_option linter.unusedSimpArgs false
set_option linter.unusedVariables false

def inW (lo hi : Int) (l : List Int) : Bool := decide (∀ x ∈ l, lo ≤ x ∧ x ≤ hi)
theorem inW_bad {lo hi : Int} {l : List Int} {k : Nat} {x : Int} (hx : l[k]? = some x) (h : ¬ (lo ≤ x ∧ x ≤ hi)) : inW lo hi l = false := decide_eq_false fun g => h (g x (List.mem_of_getElem? hx))
theorem inW_snoc {lo hi : Int} {l : List Int} {k : Nat} {x : Int} (hx : l[k]? = some x) (h : lo ≤ x ∧ x ≤ hi) (g : inW lo hi (l.take k) = true) : inW lo hi (l.take (k + 1)) = true := by
  unfold inW at *
  rw [take_snoc hx]
  have g' := of_decide_eq_true g
  refine decide_eq_true fun y hy => ?_
  rcases List.mem_append.1 hy with hy | hy
  · exact g' y hy
  · rw [List.mem_singleton.1 hy]; exact h
theorem inW_one (lo hi n : Int) : inW lo hi [n] = inB n lo hi := by unfold inW inB; rw [decide_eq_decide]; simp

set_option maxHeartbeats 400000 in
theorem implWithin (lo hi : Int) (xs : List Int) (v : Value) (w : World) (B : Nat) (h : Lst (Value.int .i64) w B v xs) :
    Calls Try.prog 109 #[.int .i64 lo, .int .i64 hi, v] w fun e w' => e = .returned (.bool (inW lo hi xs)) ∧ w' = w := by
  obtain ⟨ao, cap, rfl, hcap, hmax, -, hc⟩ := h
  unfold maxLen at hmax
  have HC := Lib.hid hc
  clear hc
  go_enter Try.func109, Try.ntmps109
  go_wp2
  go_loop [11] (fun i => ∃ k : Nat, k ≤ xs.length ∧ i = .int .i64 k ∧ inW lo hi (xs.take k) = true) (fun i => xs.length - (intOf i).toNat)
  case atStart => exact ⟨0, Nat.zero_le _, rfl, by simp [inW]⟩
  case round =>
    obtain ⟨k, hk, rfl, hok⟩ := hrel
    have HO := Lib.hid hok
    clear hok
    by_cases hlt : k < xs.length
    · obtain ⟨x, hx⟩ := get_of_lt hlt
      obtain ⟨b, off, rfl, hb, hcell⟩ := HC.out k x hx
      have HX := Lib.hid hx
      clear hx
      by_cases hi1 : lo ≤ x
      · by_cases hi2 : x ≤ hi
        · go_wp2
          go_round
          case rel => exact ⟨k + 1, by omega, by go_num, inW_snoc HX.out ⟨hi1, hi2⟩ HO.out⟩
          case measure => simp [intOf]; omega
        · have HG := Lib.hid (inW_bad (lo := lo) HX.out (fun g => hi2 g.2))
          go_wp2
          go_ret
          exact ⟨ret_bool HG.out.symm, rfl⟩
      · have HG := Lib.hid (inW_bad (hi := hi) HX.out (fun g => hi1 g.1))
        go_wp2
        go_ret
        exact ⟨ret_bool HG.out.symm, rfl⟩
    · rw [take_all hlt] at HO
      go_wp2
      go_ret
      exact ⟨ret_bool HO.out.symm, rfl⟩

theorem lst_bx {w : World} {b : Nat} {n : Int} (h : Bx w b [.int .i64 n]) : Lst (Value.int .i64) w (b + 1) (.slice (some ⟨b, 0, none⟩) 1 1) [n] := by
  refine ⟨_, _, rfl, by simp, by simp [maxLen], by simp, fun i x hi => ?_⟩
  have hlt := (List.getElem?_eq_some_iff.1 hi).1
  obtain rfl : i = 0 := by simpa using hlt
  simp only [List.getElem?_cons_zero, Option.some.injEq] at hi
  subst hi
  exact ⟨_, _, rfl, by omega, h.2 0 _ rfl⟩
theorem implInX (lo hi n : Int) (b : Nat) (w : World) (r : Bool) (hb : Bx w b [.int .i64 n]) (h : inB n lo hi = r) :
    Calls Try.prog 109 #[.int .i64 lo, .int .i64 hi, .slice (some ⟨b, 0, none⟩) 1 1] w fun e w' => e = .returned (.bool r) ∧ Below w.heap.size w w' := by
  have := implWithin lo hi [n] _ w _ (lst_bx hb)
  rw [inW_one, h] at this
  exact this.mono fun _ _ ⟨h1, h2⟩ => ⟨h1, h2 ▸ Below.refl _ _⟩

set_option maxRecDepth 100000 in
set_option maxHeartbeats 2000000 in
theorem implOne (p : GPick) (u : Bool) (w : World) (hu : oneB p = u) :
    Calls Try.prog 170 #[.agg #[.int .i64 p.pId, .int .i64 p.pStation, .int .i64 p.pWave, .int .i64 p.pTick, .int .i64 p.pError, .int .i64 p.pBy, .int .i64 p.pAfter]] w fun e w' => e = .returned (.bool u) ∧ Below w.heap.size w w' := by
  unfold oneB at hu
  generalize h0 : inB p.pId 1 9999 = b0 at hu
  generalize h1 : inB p.pStation 1 99 = b1 at hu
  generalize h2 : inB p.pWave 0 1 = b2 at hu
  generalize h3 : inB p.pTick 0 1000000 = b3 at hu
  generalize h4 : inB p.pError 0 1000 = b4 at hu
  generalize h5 : inB p.pBy 0 50 = b5 at hu
  generalize h6 : inB p.pAfter 0 (p.pId - 1) = b6 at hu
  have H0 := Lib.hid h0
  have H1 := Lib.hid h1
  have H2 := Lib.hid h2
  have H3 := Lib.hid h3
  have H4 := Lib.hid h4
  have H5 := Lib.hid h5
  have H6 := Lib.hid h6
  have HU := Lib.hid hu
  clear hu h0 h1 h2 h3 h4 h5 h6
  have N := Lib.hid (below_cell (w := w) (Nat.le_refl _) (.cells #[.int .i64 p.pId, .int .i64 p.pStation, .int .i64 p.pWave, .int .i64 p.pTick, .int .i64 p.pError, .int .i64 p.pBy, .int .i64 p.pAfter] 76))
  have bx : Bx (w.alloc (.cells #[.int .i64 p.pId, .int .i64 p.pStation, .int .i64 p.pWave, .int .i64 p.pTick, .int .i64 p.pError, .int .i64 p.pBy, .int .i64 p.pAfter] 76)) w.heap.size (encPick p) := Bx.new w (encPick p) 76
  go_enter Try.func170, Try.ntmps170
  go_wp2_with fail
  refine (implInX 1 9999 p.pId _ _ b0 (Bx.new1 w (.cells #[.int .i64 p.pId, .int .i64 p.pStation, .int .i64 p.pWave, .int .i64 p.pTick, .int .i64 p.pError, .int .i64 p.pBy, .int .i64 p.pAfter] 76) [.int .i64 p.pId] 3) H0.out).mono ?_
  rintro e w1 ⟨rfl, hb⟩
  have C1 : Below w.heap.size w w1 := (N.out.alloc N.out.size _).trans (hb.mono (Nat.le_trans N.out.size ((Below.refl _ _).alloc (Nat.le_refl _) _).size))
  have bx1 := (bx.alloc (.cells #[.int .i64 p.pId] 3)).below hb
  have q0 : w1.cell? ⟨w.heap.size, 0, none⟩ = some (.int .i64 p.pId) := bx1.2 0 _ rfl
  have q1 : w1.cell? ⟨w.heap.size, 1, none⟩ = some (.int .i64 p.pStation) := bx1.2 1 _ rfl
  have q2 : w1.cell? ⟨w.heap.size, 2, none⟩ = some (.int .i64 p.pWave) := bx1.2 2 _ rfl
  have q3 : w1.cell? ⟨w.heap.size, 3, none⟩ = some (.int .i64 p.pTick) := bx1.2 3 _ rfl
  have q4 : w1.cell? ⟨w.heap.size, 4, none⟩ = some (.int .i64 p.pError) := bx1.2 4 _ rfl
  have q5 : w1.cell? ⟨w.heap.size, 5, none⟩ = some (.int .i64 p.pBy) := bx1.2 5 _ rfl
  have q6 : w1.cell? ⟨w.heap.size, 6, none⟩ = some (.int .i64 p.pAfter) := bx1.2 6 _ rfl
  clear bx hb
  cases b0
  case false =>
    have HF : Hid (false = u) := Lib.hid (by rw [← HU.out]; simp)
    go_wp2
    go_ret
    exact ⟨ret_bool HF.out, C1⟩
  obtain ⟨i1, i2⟩ := inB_iff.1 H0.out
  go_wp2_with fail
  refine (implId _ b1 _ H1.out).mono ?_
  rintro e w' ⟨rfl, rfl⟩
  cases b1
  case false =>
    have HF : Hid (false = u) := Lib.hid (by rw [← HU.out]; simp)
    go_wp2
    go_ret
    exact ⟨ret_bool HF.out, C1⟩
  go_wp2_with fail
  refine (implTick _ b3 _ H3.out).mono ?_
  rintro e w' ⟨rfl, rfl⟩
  cases b3
  case false =>
    have HF : Hid (false = u) := Lib.hid (by rw [← HU.out]; simp)
    go_wp2
    go_ret
    exact ⟨ret_bool HF.out, C1⟩
  cases b2
  case false =>
    have HF : Hid (false = u) := Lib.hid (by rw [← HU.out]; simp)
    have hw2 : ¬ (0 ≤ p.pWave ∧ p.pWave ≤ 1) := fun g => absurd ((inB_iff.2 g).symm.trans H2.out) (by simp)
    have n0 : ¬ p.pWave = 0 := by omega
    have n1 : ¬ p.pWave = 1 := by omega
    have n2 : (p.pWave != 0) = true := by simp [n0]
    have n3 : (p.pWave != 1) = true := by simp [n1]
    have n4 : (p.pWave == 0) = false := by simp [n0]
    have n5 : (p.pWave == 1) = false := by simp [n1]
    clear hw2 n0 n1
    go_wp2
    go_ret
    exact ⟨ret_bool HF.out, C1⟩
  have hw2 := inB_iff.1 H2.out
  have HW : p.pWave = 0 ∨ (¬ p.pWave = 0 ∧ p.pWave = 1) := by omega
  clear hw2
  rcases HW with hw0 | ⟨hw0, hw1⟩
  · have n2 : (p.pWave != 0) = false := by simp [hw0]
    have n4 : (p.pWave == 0) = true := by simp [hw0]
    clear hw0
    go_wp2_with fail
    refine (implInX 0 1000 p.pError _ _ b4 (Bx.new w1 [.int .i64 p.pError] 3) H4.out).mono ?_
    rintro e w2 ⟨rfl, hb⟩
    have M : Below w1.heap.size w1 w2 := ((Below.refl _ _).alloc (Nat.le_refl _) (.cells #[.int .i64 p.pError] 3)).trans (hb.mono (by first | omega | (simp; done) | (simp; omega)))
    have C2 : Below w.heap.size w w2 := C1.trans (M.mono C1.size)
    have bx2 := bx1.below M
    have r0 : w2.cell? ⟨w.heap.size, 0, none⟩ = some (.int .i64 p.pId) := bx2.2 0 _ rfl
    have r1 : w2.cell? ⟨w.heap.size, 1, none⟩ = some (.int .i64 p.pStation) := bx2.2 1 _ rfl
    have r2 : w2.cell? ⟨w.heap.size, 2, none⟩ = some (.int .i64 p.pWave) := bx2.2 2 _ rfl
    have r3 : w2.cell? ⟨w.heap.size, 3, none⟩ = some (.int .i64 p.pTick) := bx2.2 3 _ rfl
    have r4 : w2.cell? ⟨w.heap.size, 4, none⟩ = some (.int .i64 p.pError) := bx2.2 4 _ rfl
    have r5 : w2.cell? ⟨w.heap.size, 5, none⟩ = some (.int .i64 p.pBy) := bx2.2 5 _ rfl
    have r6 : w2.cell? ⟨w.heap.size, 6, none⟩ = some (.int .i64 p.pAfter) := bx2.2 6 _ rfl
    clear hb M
    cases b4
    case false =>
      have HF : Hid (false = u) := Lib.hid (by rw [← HU.out]; simp)
      go_wp2
      go_ret
      exact ⟨ret_bool HF.out, C2⟩
    go_wp2_with fail
    refine (implInX 0 50 p.pBy _ _ b5 (Bx.new w2 [.int .i64 p.pBy] 3) H5.out).mono ?_
    rintro e w3 ⟨rfl, hb⟩
    have M : Below w2.heap.size w2 w3 := ((Below.refl _ _).alloc (Nat.le_refl _) (.cells #[.int .i64 p.pBy] 3)).trans (hb.mono (by first | omega | (simp; done) | (simp; omega)))
    have C3 : Below w.heap.size w w3 := C2.trans (M.mono C2.size)
    have bx3 := bx2.below M
    have s0 : w3.cell? ⟨w.heap.size, 0, none⟩ = some (.int .i64 p.pId) := bx3.2 0 _ rfl
    have s1 : w3.cell? ⟨w.heap.size, 1, none⟩ = some (.int .i64 p.pStation) := bx3.2 1 _ rfl
    have s2 : w3.cell? ⟨w.heap.size, 2, none⟩ = some (.int .i64 p.pWave) := bx3.2 2 _ rfl
    have s3 : w3.cell? ⟨w.heap.size, 3, none⟩ = some (.int .i64 p.pTick) := bx3.2 3 _ rfl
    have s4 : w3.cell? ⟨w.heap.size, 4, none⟩ = some (.int .i64 p.pError) := bx3.2 4 _ rfl
    have s5 : w3.cell? ⟨w.heap.size, 5, none⟩ = some (.int .i64 p.pBy) := bx3.2 5 _ rfl
    have s6 : w3.cell? ⟨w.heap.size, 6, none⟩ = some (.int .i64 p.pAfter) := bx3.2 6 _ rfl
    clear hb M
    cases b5
    case false =>
      have HF : Hid (false = u) := Lib.hid (by rw [← HU.out]; simp)
      go_wp2
      go_ret
      exact ⟨ret_bool HF.out, C3⟩
    go_wp2_with fail
    refine (implInX 0 (p.pId - 1) p.pAfter _ _ b6 (Bx.new w3 [.int .i64 p.pAfter] 3) H6.out).mono ?_
    rintro e w4 ⟨rfl, hb⟩
    have M : Below w3.heap.size w3 w4 := ((Below.refl _ _).alloc (Nat.le_refl _) (.cells #[.int .i64 p.pAfter] 3)).trans (hb.mono (by first | omega | (simp; done) | (simp; omega)))
    have C4 : Below w.heap.size w w4 := C3.trans (M.mono C3.size)
    have HF : Hid (b6 = u) := Lib.hid (by rw [← HU.out]; simp)
    go_wp2
    go_ret
    exact ⟨ret_bool HF.out, C4⟩
  · have n2 : (p.pWave != 0) = true := by simp [hw0]
    have n4 : (p.pWave == 0) = false := by simp [hw0]
    have n3 : (p.pWave != 1) = false := by simp [hw1]
    have n5 : (p.pWave == 1) = true := by simp [hw1]
    clear hw0 hw1
    go_wp2_with fail
    refine (implInX 0 1000 p.pError _ _ b4 (Bx.new w1 [.int .i64 p.pError] 3) H4.out).mono ?_
    rintro e w2 ⟨rfl, hb⟩
    have M : Below w1.heap.size w1 w2 := ((Below.refl _ _).alloc (Nat.le_refl _) (.cells #[.int .i64 p.pError] 3)).trans (hb.mono (by first | omega | (simp; done) | (simp; omega)))
    have C2 : Below w.heap.size w w2 := C1.trans (M.mono C1.size)
    have bx2 := bx1.below M
    have r0 : w2.cell? ⟨w.heap.size, 0, none⟩ = some (.int .i64 p.pId) := bx2.2 0 _ rfl
    have r1 : w2.cell? ⟨w.heap.size, 1, none⟩ = some (.int .i64 p.pStation) := bx2.2 1 _ rfl
    have r2 : w2.cell? ⟨w.heap.size, 2, none⟩ = some (.int .i64 p.pWave) := bx2.2 2 _ rfl
    have r3 : w2.cell? ⟨w.heap.size, 3, none⟩ = some (.int .i64 p.pTick) := bx2.2 3 _ rfl
    have r4 : w2.cell? ⟨w.heap.size, 4, none⟩ = some (.int .i64 p.pError) := bx2.2 4 _ rfl
    have r5 : w2.cell? ⟨w.heap.size, 5, none⟩ = some (.int .i64 p.pBy) := bx2.2 5 _ rfl
    have r6 : w2.cell? ⟨w.heap.size, 6, none⟩ = some (.int .i64 p.pAfter) := bx2.2 6 _ rfl
    clear hb M
    cases b4
    case false =>
      have HF : Hid (false = u) := Lib.hid (by rw [← HU.out]; simp)
      go_wp2
      go_ret
      exact ⟨ret_bool HF.out, C2⟩
    go_wp2_with fail
    refine (implInX 0 50 p.pBy _ _ b5 (Bx.new w2 [.int .i64 p.pBy] 3) H5.out).mono ?_
    rintro e w3 ⟨rfl, hb⟩
    have M : Below w2.heap.size w2 w3 := ((Below.refl _ _).alloc (Nat.le_refl _) (.cells #[.int .i64 p.pBy] 3)).trans (hb.mono (by first | omega | (simp; done) | (simp; omega)))
    have C3 : Below w.heap.size w w3 := C2.trans (M.mono C2.size)
    have bx3 := bx2.below M
    have s0 : w3.cell? ⟨w.heap.size, 0, none⟩ = some (.int .i64 p.pId) := bx3.2 0 _ rfl
    have s1 : w3.cell? ⟨w.heap.size, 1, none⟩ = some (.int .i64 p.pStation) := bx3.2 1 _ rfl
    have s2 : w3.cell? ⟨w.heap.size, 2, none⟩ = some (.int .i64 p.pWave) := bx3.2 2 _ rfl
    have s3 : w3.cell? ⟨w.heap.size, 3, none⟩ = some (.int .i64 p.pTick) := bx3.2 3 _ rfl
    have s4 : w3.cell? ⟨w.heap.size, 4, none⟩ = some (.int .i64 p.pError) := bx3.2 4 _ rfl
    have s5 : w3.cell? ⟨w.heap.size, 5, none⟩ = some (.int .i64 p.pBy) := bx3.2 5 _ rfl
    have s6 : w3.cell? ⟨w.heap.size, 6, none⟩ = some (.int .i64 p.pAfter) := bx3.2 6 _ rfl
    clear hb M
    cases b5
    case false =>
      have HF : Hid (false = u) := Lib.hid (by rw [← HU.out]; simp)
      go_wp2
      go_ret
      exact ⟨ret_bool HF.out, C3⟩
    go_wp2_with fail
    refine (implInX 0 (p.pId - 1) p.pAfter _ _ b6 (Bx.new w3 [.int .i64 p.pAfter] 3) H6.out).mono ?_
    rintro e w4 ⟨rfl, hb⟩
    have M : Below w3.heap.size w3 w4 := ((Below.refl _ _).alloc (Nat.le_refl _) (.cells #[.int .i64 p.pAfter] 3)).trans (hb.mono (by first | omega | (simp; done) | (simp; omega)))
    have C4 : Below w.heap.size w w4 := C3.trans (M.mono C3.size)
    have HF : Hid (b6 = u) := Lib.hid (by rw [← HU.out]; simp)
    go_wp2
    go_ret
    exact ⟨ret_bool HF.out, C4⟩
end Go.Proofs.Ytklilfbokpljkaa
