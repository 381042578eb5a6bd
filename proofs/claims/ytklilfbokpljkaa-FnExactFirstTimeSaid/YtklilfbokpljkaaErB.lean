/- Models of the ground: the specification's times. -/
import Derived.Test.YtklilfbokpljkaaErA
namespace Go.Proofs.Ytklilfbokpljkaa
open Go.ChangeShapes Go.WideShapes Go.ChangeAt Go.RowKit Go.ChangeMaps
set_option linter.unusedSimpArgs false
set_option linter.unusedVariables false

theorem leastE (x y z : Int) (w : World) (h : (if x < y then x else y) = z) :
    Calls Try.prog 124 #[.int .i64 x, .int .i64 y] w fun e w' => e = .returned (.int .i64 z) ∧ w' = w := by
  subst h
  by_cases h : x < y
  · rw [if_pos h]
    go_enter Try.func124, Try.ntmps124
    go_wp2
    go_ret
    exact ⟨rfl, rfl⟩
  · rw [if_neg h]
    go_enter Try.func124, Try.ntmps124
    go_wp2
    go_ret
    exact ⟨rfl, rfl⟩
theorem inE_two {xs : List GEarth} {d : Int} {k : Nat} {e : GEarth} (h : okEa e) {z : Int} (hz : (if e.pThick < d - depE (xs.take k) then e.pThick else d - depE (xs.take k)) = z) : (if z < 0 then 0 else z) = inE xs d k e := by
  subst hz
  unfold inE
  unfold okEa at h
  split <;> split <;> (try split) <;> omega
/-- Where the sum of fractions stands behind k layers. -/
structure ToAt (xs : List GEarth) (d : Int) (k : Nat) (a b t : Int) : Prop where
  num : a = numR (toE (prodE xs) xs d k) (prodE xs)
  den : b = denR (toE (prodE xs) xs d k) (prodE xs)
  top : t = depE (xs.take k)
theorem toAt_zero {xs : List GEarth} (h : okE xs) (d : Int) : ToAt xs d 0 0 1 0 := by
  have hP := (prodE_all h).1
  have e := red_eq (a := 0) (b := 1) (c := 0) (d := prodE xs) (by omega) hP (by omega)
  refine ⟨?_, ?_, rfl⟩
  · show (0 : Int) = numR 0 (prodE xs)
    rw [← e.1]; rfl
  · show (1 : Int) = denR 0 (prodE xs)
    rw [← e.2]; rfl
theorem ToAt.succ {xs : List GEarth} (h : okE xs) {d : Int} {k : Nat} {a b t : Int} (s : ToAt xs d k a b t) {e : GEarth} (he : xs[k]? = some e) :
    ToAt xs d (k + 1) (numR (a * e.pSpeed + inE xs d k e * b) (b * e.pSpeed)) (denR (a * e.pSpeed + inE xs d k e * b) (b * e.pSpeed)) (t + e.pThick) := by
  have r := step_red h (List.mem_of_getElem? he) (toE (prodE xs) xs d k) (inE xs d k e)
  rw [← s.num, ← s.den, ← toE_succ he] at r
  exact ⟨r.1, r.2, by rw [s.top, depE_snoc he]⟩
theorem ToAt.bd {xs : List GEarth} (h : okE xs) {d : Int} {k : Nat} (hk : k ≤ xs.length) {a b t : Int} (s : ToAt xs d k a b t) : (0 ≤ a ∧ a ≤ 6250000000) ∧ (1 ≤ b ∧ b ≤ 312500000) ∧ (0 ≤ t ∧ t ≤ 1000) := by
  have hP := prodE_all h
  have ht := toE_bd h d k hk
  have r := red_bdE (n := toE (prodE xs) xs d k) (N := 6250000000) hP.1 ht.1 (by have := h.1; omega)
  have t' := depE_bd h k hk
  rw [← s.num, ← s.den] at r
  rw [← s.top] at t'
  have := h.1
  omega
theorem mul_bdE {a b A C : Int} (h0 : 0 ≤ a) (h1 : a ≤ A) (k0 : 0 ≤ b) (k1 : b ≤ C) : 0 ≤ a * b ∧ a * b ≤ A * C :=
  ⟨Int.mul_nonneg h0 k0, Int.mul_le_mul h1 k1 k0 (by omega)⟩
set_option maxRecDepth 100000 in
set_option maxHeartbeats 2000000 in
theorem specTo (xs : List GEarth) (v : Value) (d a9 b9 : Int) (w : World) (B : Nat) (h : EarthL w B v xs) (hok : okE xs) (h0 : 0 ≤ d) (h1 : d ≤ 1000)
    (ha : numR (toE (prodE xs) xs d xs.length) (prodE xs) = a9) (hb : denR (toE (prodE xs) xs d xs.length) (prodE xs) = b9) :
    Calls Try.prog 107 #[v, .int .i64 d] w fun e w' => e = .returned (.tuple #[.int .i64 a9, .int .i64 b9]) ∧ Drawn w w' := by
  obtain ⟨ao, cap, rfl, hcap, hmax, -, hc⟩ := h
  have HC := Lib.hid hc
  have HO := Lib.hid hok
  have HRA := Lib.hid ha
  have HRB := Lib.hid hb
  have hl1 := hok.1.1
  have hl5 := hok.1.2
  clear hc hok ha hb
  go_enter Try.func107, Try.ntmps107
  go_wp2
  go_loopw [6, 7, 8, 9] (fun s6 s7 s8 i wr => ∃ (k n : Nat) (a b t : Int), k ≤ xs.length ∧ i = .int .i64 k ∧ s6 = .int .i64 a ∧ s7 = .int .i64 b ∧ s8 = .int .i64 t ∧ Hid (ToAt xs d k a b t) ∧ wr = w.drewN n) (fun _ _ _ i _ => xs.length - (intOf i).toNat)
  case atStart => exact ⟨0, 0, 0, 1, 0, Nat.zero_le _, rfl, rfl, rfl, rfl, Lib.hid (toAt_zero HO.out d), by simp [World.drewN]⟩
  case round =>
    obtain ⟨k, n, a, b, t, hk, rfl, rfl, rfl, rfl, HT, hw⟩ := hrel
    have hwb : ∀ p, wr.cell? p = w.cell? p := fun p => by rw [hw]; rfl
    have HW : Hid (∀ q, ∃ n', wr.drewN q = w.drewN n') := Lib.hid (fun q => ⟨n + q, by rw [hw, World.drewN_drewN]⟩)
    have HW0 : Hid (Drawn w wr) := Lib.hid ⟨n, hw⟩
    clear hw
    obtain ⟨⟨ba0, ba1⟩, ⟨bb0, bb1⟩, bt0, bt1⟩ := HT.out.bd HO.out hk
    by_cases hlt : k < xs.length
    case neg =>
      obtain rfl : k = xs.length := by omega
      have HF : Hid (a = a9 ∧ b = b9) := Lib.hid ⟨by rw [← HRA.out]; exact HT.out.num, by rw [← HRB.out]; exact HT.out.den⟩
      go_wp2
      go_ret2
      exact ⟨ret2i HF.out.1 HF.out.2, HW0.out⟩
    obtain ⟨m, hm⟩ := get_of_lt hlt
    obtain ⟨bk, off, rfl, hbk, hcell⟩ := HC.out k m hm
    have c0 : wr.cell? ⟨bk, off + k * 2, none⟩ = some (.int .i64 m.pThick) := (hwb _).trans (hcell 0 _ rfl)
    have c1 : wr.cell? ⟨bk, off + k * 2 + 1, none⟩ = some (.int .i64 m.pSpeed) := (hwb _).trans (hcell 1 _ rfl)
    have c2 : ∀ q, (wr.drewN q).cell? ⟨bk, off + k * 2, none⟩ = some (.int .i64 m.pThick) := fun q => c0
    have hi0 : (0 : Int) ≤ (k : Int) := by omega
    have hi1 : (k : Int) < (xs.length : Int) := by omega
    have hi2 : (xs.length : Int) ≤ 5 := by omega
    have ho := okE_at HO.out hm
    have hib := inE_bd (xs := xs) (d := d) (k := k) ho
    have HS := Lib.hid (HT.out.succ HO.out hm)
    obtain ⟨z, hz⟩ : ∃ z, (if m.pThick < d - t then m.pThick else d - t) = z := ⟨_, rfl⟩
    have hz2 : (if z < 0 then 0 else z) = inE xs d k m := inE_two ho (by rw [← HT.out.top]; exact hz)
    have C1 := Lib.hid (fun W => leastE m.pThick (d - t) z W hz)
    have C2 := Lib.hid (fun W => mostB 0 z (inE xs d k m) W hz2)
    obtain ⟨⟨ho0, ho1⟩, ho2, ho3⟩ := ho
    generalize inE xs d k m = p at *
    obtain ⟨p0, p1⟩ := hib
    have m1 := mul_bdE (A := 6250000000) (C := 50) ba0 ba1 (show 0 ≤ m.pSpeed by omega) ho3
    have m2 := mul_bdE (A := 200) (C := 312500000) p0 p1 (show 0 ≤ b by omega) bb1
    have m3 := mul_bdE (A := 312500000) (C := 50) (show 0 ≤ b by omega) bb1 (show 0 ≤ m.pSpeed by omega) ho3
    have m4 : 1 ≤ b * m.pSpeed := by
      have := Int.mul_le_mul (a := 1) (b := 1) (c := b) (d := m.pSpeed) bb0 ho2 (by omega) (by omega)
      omega
    have s0 : IntKind.i64.wrap (d - t) = d - t := IntWalk.i64_in _ (by omega)
    have s1 : IntKind.i64.wrap (a * m.pSpeed) = a * m.pSpeed := IntWalk.i64_in _ (by omega)
    have s2 : IntKind.i64.wrap (p * b) = p * b := IntWalk.i64_in _ (by omega)
    have s3 : IntKind.i64.wrap (b * m.pSpeed) = b * m.pSpeed := IntWalk.i64_in _ (by omega)
    have s4 : IntKind.i64.wrap (a * m.pSpeed + p * b) = a * m.pSpeed + p * b := IntWalk.i64_in _ (by omega)
    have s5 : IntKind.i64.wrap (t + m.pThick) = t + m.pThick := IntWalk.i64_in _ (by omega)
    have CR : Hid (∀ W, Calls Try.prog 108 #[.int .i64 (a * m.pSpeed + p * b), .int .i64 (b * m.pSpeed)] W fun e w' => e = .returned (.tuple #[.int .i64 (numR (a * m.pSpeed + p * b) (b * m.pSpeed)), .int .i64 (denR (a * m.pSpeed + p * b) (b * m.pSpeed))]) ∧ ∃ n, w' = W.drewN n) := Lib.hid (fun W => specRed _ _ W (by omega) (by omega) (by omega) (by omega))
    generalize numR (a * m.pSpeed + p * b) (b * m.pSpeed) = nu at *
    generalize denR (a * m.pSpeed + p * b) (b * m.pSpeed) = de at *
    clear hm hcell hz hz2 m1 m2 m3 m4 hwb
    go_wp2_with fail
    refine (C1.out _).mono ?_
    rintro e w1 ⟨rfl, q1⟩
    obtain rfl : wr = w1 := q1.symm
    go_wp2_with fail
    refine (C2.out _).mono ?_
    rintro e w1 ⟨rfl, q1⟩
    obtain rfl : wr = w1 := q1.symm
    go_wp2
    go_quiet ((go_at_call 108; exact Calls.quiet_of (CR.out _)))
    go_wp2
    go_roundw
    case rel =>
      obtain ⟨n', hn'⟩ := HW.out nq
      exact ⟨k + 1, n', _, _, _, by omega, by go_num, rfl, rfl, rfl, HS, hn'⟩
    case measure => simp [intOf]; omega
end Go.Proofs.Ytklilfbokpljkaa
