/- Models of the ground: what the functions answer. -/
import Derived.Test.YtklilfbokpljkaaErC
namespace Go.Proofs.Ytklilfbokpljkaa
open Go.ChangeShapes Go.WideShapes Go.ChangeAt Go.RowKit Go.ChangeMaps
set_option linter.unusedSimpArgs false
set_option linter.unusedVariables false
set_option linter.unusedSimpArgs false
set_option linter.unusedVariables false


noncomputable def okMd (xs : List GEarth) : Bool := goodE xs
noncomputable def numMd (xs : List GEarth) : Int := if okMd xs = true then depE xs else 0
theorem noMd {xs : List GEarth} (h : okMd xs = false) : Ending.returned (.tuple #[.int .i64 0, .bool false]) = .returned (.tuple #[.int .i64 (numMd xs), .bool (okMd xs)]) := by unfold numMd; rw [h]; rfl
theorem yesMd {xs : List GEarth} {x0 : Int} (h : okMd xs = true) (h0 : depE xs = x0) : Ending.returned (.tuple #[.int .i64 x0, .bool true]) = .returned (.tuple #[.int .i64 (numMd xs), .bool (okMd xs)]) := by unfold numMd; rw [h, ← h0]; rfl
noncomputable def okTo (xs : List GEarth) (d : Int) : Bool := goodE xs && decide (0 ≤ d ∧ d ≤ depE xs)
noncomputable def numTo (xs : List GEarth) (d : Int) : Int := if okTo xs d = true then numR (toE (prodE xs) xs d xs.length) (prodE xs) else 0
noncomputable def denTo (xs : List GEarth) (d : Int) : Int := if okTo xs d = true then denR (toE (prodE xs) xs d xs.length) (prodE xs) else 0
theorem noTo {xs : List GEarth} {d : Int} (h : okTo xs d = false) : Ending.returned (.tuple #[.int .i64 0, .int .i64 0, .bool false]) = .returned (.tuple #[.int .i64 (numTo xs d), .int .i64 (denTo xs d), .bool (okTo xs d)]) := by unfold numTo denTo; rw [h]; rfl
theorem yesTo {xs : List GEarth} {d : Int} {x0 x1 : Int} (h : okTo xs d = true) (h0 : numR (toE (prodE xs) xs d xs.length) (prodE xs) = x0) (h1 : denR (toE (prodE xs) xs d xs.length) (prodE xs) = x1) : Ending.returned (.tuple #[.int .i64 x0, .int .i64 x1, .bool true]) = .returned (.tuple #[.int .i64 (numTo xs d), .int .i64 (denTo xs d), .bool (okTo xs d)]) := by unfold numTo denTo; rw [h, ← h0, ← h1]; rfl
noncomputable def okVi (xs : List GEarth) (k D : Int) : Bool := goodE xs && decide (0 ≤ D ∧ D ≤ 2000) && decide (0 ≤ k ∧ k ≤ (xs.length : Int) - 1)
noncomputable def numVi (xs : List GEarth) (k D : Int) : Int := if okVi xs k D = true then numR (viaE (prodE xs) xs D k.toNat) (prodE xs) else 0
noncomputable def denVi (xs : List GEarth) (k D : Int) : Int := if okVi xs k D = true then denR (viaE (prodE xs) xs D k.toNat) (prodE xs) else 0
theorem noVi {xs : List GEarth} {k D : Int} (h : okVi xs k D = false) : Ending.returned (.tuple #[.int .i64 0, .int .i64 0, .bool false]) = .returned (.tuple #[.int .i64 (numVi xs k D), .int .i64 (denVi xs k D), .bool (okVi xs k D)]) := by unfold numVi denVi; rw [h]; rfl
theorem yesVi {xs : List GEarth} {k D : Int} {x0 x1 : Int} (h : okVi xs k D = true) (h0 : numR (viaE (prodE xs) xs D k.toNat) (prodE xs) = x0) (h1 : denR (viaE (prodE xs) xs D k.toNat) (prodE xs) = x1) : Ending.returned (.tuple #[.int .i64 x0, .int .i64 x1, .bool true]) = .returned (.tuple #[.int .i64 (numVi xs k D), .int .i64 (denVi xs k D), .bool (okVi xs k D)]) := by unfold numVi denVi; rw [h, ← h0, ← h1]; rfl
noncomputable def okFi (xs : List GEarth) (D : Int) : Bool := goodE xs && decide (0 ≤ D ∧ D ≤ 2000)
noncomputable def layFi (xs : List GEarth) (D : Int) : Int := if okFi xs D = true then ((bestE (viaE (prodE xs) xs D) (xs.length - 1) : Nat) : Int) else 0
theorem noFi {xs : List GEarth} {D : Int} (h : okFi xs D = false) : Ending.returned (.tuple #[.int .i64 0, .bool false]) = .returned (.tuple #[.int .i64 (layFi xs D), .bool (okFi xs D)]) := by unfold layFi; rw [h]; rfl
theorem yesFi {xs : List GEarth} {D : Int} {x0 : Int} (h : okFi xs D = true) (h0 : ((bestE (viaE (prodE xs) xs D) (xs.length - 1) : Nat) : Int) = x0) : Ending.returned (.tuple #[.int .i64 x0, .bool true]) = .returned (.tuple #[.int .i64 (layFi xs D), .bool (okFi xs D)]) := by unfold layFi; rw [h, ← h0]; rfl
noncomputable def numFt (xs : List GEarth) (D : Int) : Int := if okFi xs D = true then numR (minE (prodE xs) xs D) (prodE xs) else 0
noncomputable def denFt (xs : List GEarth) (D : Int) : Int := if okFi xs D = true then denR (minE (prodE xs) xs D) (prodE xs) else 0
theorem noFt {xs : List GEarth} {D : Int} (h : okFi xs D = false) : Ending.returned (.tuple #[.int .i64 0, .int .i64 0, .bool false]) = .returned (.tuple #[.int .i64 (numFt xs D), .int .i64 (denFt xs D), .bool (okFi xs D)]) := by unfold numFt denFt; rw [h]; rfl
theorem yesFt {xs : List GEarth} {D : Int} {x0 x1 : Int} (h : okFi xs D = true) (h0 : numR (minE (prodE xs) xs D) (prodE xs) = x0) (h1 : denR (minE (prodE xs) xs D) (prodE xs) = x1) : Ending.returned (.tuple #[.int .i64 x0, .int .i64 x1, .bool true]) = .returned (.tuple #[.int .i64 (numFt xs D), .int .i64 (denFt xs D), .bool (okFi xs D)]) := by unfold numFt denFt; rw [h, ← h0, ← h1]; rfl
noncomputable def okMs (xs : List GEarth) (d : Int) : Bool := goodE xs && decide (1 ≤ d ∧ d ≤ depE xs)
noncomputable def numMs (xs : List GEarth) (d : Int) : Int := if okMs xs d = true then numR (d * denR (toE (prodE xs) xs d xs.length) (prodE xs)) (numR (toE (prodE xs) xs d xs.length) (prodE xs)) else 0
noncomputable def denMs (xs : List GEarth) (d : Int) : Int := if okMs xs d = true then denR (d * denR (toE (prodE xs) xs d xs.length) (prodE xs)) (numR (toE (prodE xs) xs d xs.length) (prodE xs)) else 0
theorem noMs {xs : List GEarth} {d : Int} (h : okMs xs d = false) : Ending.returned (.tuple #[.int .i64 0, .int .i64 0, .bool false]) = .returned (.tuple #[.int .i64 (numMs xs d), .int .i64 (denMs xs d), .bool (okMs xs d)]) := by unfold numMs denMs; rw [h]; rfl
theorem yesMs {xs : List GEarth} {d : Int} {x0 x1 : Int} (h : okMs xs d = true) (h0 : numR (d * denR (toE (prodE xs) xs d xs.length) (prodE xs)) (numR (toE (prodE xs) xs d xs.length) (prodE xs)) = x0) (h1 : denR (d * denR (toE (prodE xs) xs d xs.length) (prodE xs)) (numR (toE (prodE xs) xs d xs.length) (prodE xs)) = x1) : Ending.returned (.tuple #[.int .i64 x0, .int .i64 x1, .bool true]) = .returned (.tuple #[.int .i64 (numMs xs d), .int .i64 (denMs xs d), .bool (okMs xs d)]) := by unfold numMs denMs; rw [h, ← h0, ← h1]; rfl
theorem noOv {xs : List GEarth} {l : Int} (h : okOv xs l = false) : Ending.returned (.tuple #[.int .i64 0, .bool false]) = .returned (.tuple #[.int .i64 (atOv xs l), .bool (okOv xs l)]) := by unfold atOv; rw [h]; rfl
theorem yesOv {xs : List GEarth} {l x : Int} (hg : goodE xs = true) (hl : 1 ≤ l ∧ l ≤ (xs.length : Int) - 1) (h : runE (overE (prodE xs) xs l.toNat) 2001 < 2001) (hx : ((runE (overE (prodE xs) xs l.toNat) 2001 : Nat) : Int) = x) : Ending.returned (.tuple #[.int .i64 x, .bool true]) = .returned (.tuple #[.int .i64 (atOv xs l), .bool (okOv xs l)]) := by
  have e : okOv xs l = true := by unfold okOv; rw [hg, decide_eq_true hl, decide_eq_true h]; rfl
  unfold atOv; rw [e, ← hx, if_pos rfl]
theorem okOv_never {xs : List GEarth} {l : Int} (h : ¬ runE (overE (prodE xs) xs l.toNat) 2001 < 2001) : okOv xs l = false := by unfold okOv; rw [decide_eq_false h, Bool.and_false]
theorem okOv_lay {xs : List GEarth} {l : Int} (h : ¬ (1 ≤ l ∧ l ≤ (xs.length : Int) - 1)) : okOv xs l = false := by unfold okOv; rw [decide_eq_false h, Bool.and_false, Bool.false_and]
theorem okOv_bad {xs : List GEarth} {l : Int} (h : goodE xs = false) : okOv xs l = false := by unfold okOv; rw [h]; rfl
theorem noRe {xs : List GEarth} {s : Int} (h : okRe xs s = false) : Ending.returned (.tuple #[.int .i64 0, .bool false]) = .returned (.tuple #[.int .i64 (atRe xs s), .bool (okRe xs s)]) := by unfold atRe; rw [h]; rfl
theorem yesRe {xs : List GEarth} {s x : Int} (h : okRe xs s = true) (hx : ((runE (farE (prodE xs) xs s) 2001 : Nat) : Int) - 1 = x) : Ending.returned (.tuple #[.int .i64 x, .bool true]) = .returned (.tuple #[.int .i64 (atRe xs s), .bool (okRe xs s)]) := by unfold atRe; rw [h, ← hx, if_pos rfl]
theorem Drawn.trans {a b c : World} (h : Drawn a b) (g : Drawn b c) : Drawn a c := let ⟨x, hx⟩ := h; let ⟨y, hy⟩ := g; ⟨x + y, by rw [hy, hx, World.drewN_drewN]⟩
theorem toE_pos {xs : List GEarth} (h : okE xs) {d : Int} (hd : 1 ≤ d) : ∀ k, k + 1 ≤ xs.length → 1 ≤ toE (prodE xs) xs d (k + 1)
  | 0, hk => by
    obtain ⟨e, he⟩ := get_of_lt (l := xs) (k := 0) (by omega)
    have f := fkE_bd h (List.mem_of_getElem? he)
    have o := okE_at h he
    unfold okEa at o
    rw [toE_succ he]
    have hi : 1 ≤ inE xs d 0 e := by
      unfold inE
      rw [List.take_zero, depE_nil]
      split
      · omega
      · split <;> omega
    have := Int.mul_le_mul (a := 1) (b := 1) (c := inE xs d 0 e) (d := fkE (prodE xs) e) hi f.2.1 (by omega) (by omega)
    show 1 ≤ 0 + _
    omega
  | k + 1, hk => by
    have i := toE_pos h hd k (by omega)
    obtain ⟨e, he⟩ := get_of_lt (l := xs) (k := k + 1) (by omega)
    have f := fkE_bd h (List.mem_of_getElem? he)
    have o := inE_bd (xs := xs) (d := d) (k := k + 1) (okE_at h he)
    rw [toE_succ he]
    have := Int.mul_nonneg o.1 (show 0 ≤ fkE (prodE xs) e by omega)
    omega
theorem toE_all {xs : List GEarth} (h : okE xs) {d : Int} (hd : 1 ≤ d) : 1 ≤ toE (prodE xs) xs d xs.length := by
  have hl := h.1
  have := toE_pos h hd (xs.length - 1) (by omega)
  rwa [show xs.length - 1 + 1 = xs.length by omega] at this
theorem num_pos {t P : Int} (ht : 1 ≤ t) : 1 ≤ numR t P := by
  have a1 := num_gcdE t P
  generalize numR t P = a at *
  rcases Int.lt_or_le 0 a with q | q
  · omega
  · have := Int.mul_nonpos_of_nonpos_of_nonneg q (show (0 : Int) ≤ ((gcdR t P : Nat) : Int) by omega)
    omega
/-- The time to a depth, in lowest terms: its bounds. -/
theorem to_bd {xs : List GEarth} (h : okE xs) (d : Int) : (0 ≤ numR (toE (prodE xs) xs d xs.length) (prodE xs) ∧ numR (toE (prodE xs) xs d xs.length) (prodE xs) ≤ 6250000000) ∧ (1 ≤ denR (toE (prodE xs) xs d xs.length) (prodE xs) ∧ denR (toE (prodE xs) xs d xs.length) (prodE xs) ≤ 312500000) := by
  have hP := prodE_all h
  have ht := toE_bd h d xs.length (Nat.le_refl _)
  have r := red_bdE (n := toE (prodE xs) xs d xs.length) (N := 6250000000) hP.1 ht.1 (by have := h.1; omega)
  omega
end Go.Proofs.Ytklilfbokpljkaa
