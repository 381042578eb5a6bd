/- Models of the ground: the specification's time of a wave, its first way. -/
import Derived.Test.YtklilfbokpljkaaErB
namespace Go.Proofs.Ytklilfbokpljkaa
open Go.ChangeShapes Go.WideShapes Go.ChangeAt Go.RowKit Go.ChangeMaps
set_option linter.unusedSimpArgs false
set_option linter.unusedVariables false

theorem lst_takeE {w : World} {B b off cap : Nat} {xs : List GEarth} (h : EarthL w B (.slice (some ⟨b, off, none⟩) xs.length cap) xs) {k : Nat} (hk : k ≤ xs.length) : EarthL w B (.slice (some ⟨b, off, none⟩) k cap) (xs.take k) := by
  obtain ⟨ao, cap', e, h1, h2, h3, h4⟩ := h
  simp only [Value.slice.injEq] at e
  obtain ⟨rfl, -, rfl⟩ := e
  have hl : (xs.take k).length = k := by rw [List.length_take]; omega
  refine ⟨_, _, by rw [hl], by omega, h2, by simp, fun i x hx => ?_⟩
  have hi : i < k := by have := (List.getElem?_eq_some_iff.1 hx).1; omega
  rw [List.getElem?_take, if_pos hi] at hx
  exact h4 i x hx
theorem den_pos {t P : Int} (hP : 1 ≤ P) : 1 ≤ denR t P := by
  have b1 := den_gcdE (n := t) hP
  have g1 := gcdR_pos (n := t) hP
  generalize gcdR t P = g at *
  generalize denR t P = b at *
  rcases Int.lt_or_le 0 b with q | q
  · omega
  · have := Int.mul_nonpos_of_nonpos_of_nonneg q (show (0 : Int) ≤ (g : Nat) by omega)
    omega
theorem via_red {xs : List GEarth} (h : okE xs) {e : GEarth} (he : e ∈ xs) (t D : Int) :
    numR (2 * numR t (prodE xs) * e.pSpeed + D * denR t (prodE xs)) (denR t (prodE xs) * e.pSpeed) = numR (2 * t + D * fkE (prodE xs) e) (prodE xs) ∧
    denR (2 * numR t (prodE xs) * e.pSpeed + D * denR t (prodE xs)) (denR t (prodE xs) * e.pSpeed) = denR (2 * t + D * fkE (prodE xs) e) (prodE xs) := by
  have hP := (prodE_all h).1
  have f := fkE_bd h he
  have o := h.2 e he
  unfold okEa at o
  have b1 := den_gcdE (n := t) hP
  have a1 := num_gcdE t (prodE xs)
  have hden := den_pos (t := t) hP
  have hq : 1 ≤ denR t (prodE xs) * e.pSpeed := by
    have := Int.mul_le_mul (a := 1) (b := 1) (c := denR t (prodE xs)) (d := e.pSpeed) hden o.2.1 (by omega) (by omega)
    omega
  refine red_eq hq hP ?_
  have f1 := f.1
  generalize fkE (prodE xs) e = y at *
  generalize e.pSpeed = v at *
  generalize gcdR t (prodE xs) = g at *
  generalize numR t (prodE xs) = a at *
  generalize denR t (prodE xs) = b at *
  generalize prodE xs = P at *
  rw [Int.add_mul, Int.add_mul]
  congr 1
  · rw [← a1, ← b1]; simp only [Int.mul_assoc, Int.mul_comm, Int.mul_left_comm]
  · conv => lhs; rw [← f1]
    simp only [Int.mul_assoc, Int.mul_comm, Int.mul_left_comm]
set_option maxRecDepth 100000 in
set_option maxHeartbeats 2000000 in
theorem specVia (xs : List GEarth) (v : Value) (k : Nat) (D a9 b9 : Int) (w : World) (B : Nat) (h : EarthL w B v xs) (hok : okE xs) (hk : k < xs.length) (h0 : 0 ≤ D) (h1 : D ≤ 2000)
    (ha : numR (viaE (prodE xs) xs D k) (prodE xs) = a9) (hb : denR (viaE (prodE xs) xs D k) (prodE xs) = b9) :
    Calls Try.prog 96 #[v, .int .i64 k, .int .i64 D] w fun e w' => e = .returned (.tuple #[.int .i64 a9, .int .i64 b9]) ∧ Drawn w w' := by
  obtain ⟨m, hm⟩ := get_of_lt hk
  have HL := Lib.hid h
  obtain ⟨ao, cap, rfl, hcap, hmax, -, hc⟩ := h
  obtain ⟨bk, off, rfl, hbk, hcell⟩ := hc k m hm
  have c1 : w.cell? ⟨bk, off + k * 2 + 1, none⟩ = some (.int .i64 m.pSpeed) := hcell 1 _ rfl
  have c2 : ∀ q, (w.drewN q).cell? ⟨bk, off + k * 2 + 1, none⟩ = some (.int .i64 m.pSpeed) := fun q => c1
  have L2 := lst_takeE HL.out (k := k) (by omega)
  have hl5 := hok.1.2
  have dbd := depE_bd hok k (by omega)
  have htop : toE (prodE xs) xs (depE (xs.take k)) xs.length = topE (prodE xs) xs k := by rw [toE_top hok (by omega) xs.length (Nat.le_refl _), show min xs.length k = k by omega]
  have ho := okE_at hok hm
  have hP := prodE_all hok
  have tbd := topE_bd hok k (by omega)
  have rbd := red_bdE (n := topE (prodE xs) xs k) (N := 6250000000) hP.1 tbd.1 (by omega)
  have vr := via_red hok (List.mem_of_getElem? hm) (topE (prodE xs) xs k) D
  rw [← viaE_at hm, ha, hb] at vr
  obtain ⟨d, hd⟩ : ∃ d, depE (xs.take k) = d := ⟨_, rfl⟩
  obtain ⟨a, hA⟩ : ∃ a, numR (topE (prodE xs) xs k) (prodE xs) = a := ⟨_, rfl⟩
  obtain ⟨b, hB⟩ : ∃ b, denR (topE (prodE xs) xs k) (prodE xs) = b := ⟨_, rfl⟩
  rw [hA, hB] at rbd vr
  rw [hd] at htop dbd
  have CD := Lib.hid (fun W (q : Drawn w W) => specDepE (xs.take k) (.slice (some ⟨bk, off, none⟩) k cap) d W _ (L2.below (q.below _)) (by rw [List.length_take]; omega) (fun e he => hok.2 e (List.mem_of_mem_take he)) hd)
  have CT := Lib.hid (fun W (q : Drawn w W) => specTo xs (.slice (some ⟨bk, off, none⟩) xs.length cap) d a b W _ (HL.out.below (q.below _)) hok (by omega) (by omega) (by rw [htop]; exact hA) (by rw [htop]; exact hB))
  have VR := Lib.hid vr
  obtain ⟨⟨ra0, ra1⟩, rb0, rb1⟩ := rbd
  have hb2 : b ≤ 312500000 := by omega
  obtain ⟨⟨ho0, ho1⟩, ho2, ho3⟩ := ho
  have m0 : 0 ≤ 2 * a ∧ 2 * a ≤ 12500000000 := by omega
  have m1 := mul_bdE (A := 12500000000) (C := 50) m0.1 m0.2 (show 0 ≤ m.pSpeed by omega) ho3
  have m2 := mul_bdE (A := 2000) (C := 312500000) h0 h1 (show 0 ≤ b by omega) hb2
  have m3 := mul_bdE (A := 312500000) (C := 50) (show 0 ≤ b by omega) hb2 (show 0 ≤ m.pSpeed by omega) ho3
  have m4 : 1 ≤ b * m.pSpeed := by
    have := Int.mul_le_mul (a := 1) (b := 1) (c := b) (d := m.pSpeed) rb0 ho2 (by omega) (by omega)
    omega
  have s0 : IntKind.i64.wrap (2 * a) = 2 * a := IntWalk.i64_in _ (by omega)
  have s1 : IntKind.i64.wrap (2 * a * m.pSpeed) = 2 * a * m.pSpeed := IntWalk.i64_in _ (by omega)
  have s2 : IntKind.i64.wrap (D * b) = D * b := IntWalk.i64_in _ (by omega)
  have s3 : IntKind.i64.wrap (b * m.pSpeed) = b * m.pSpeed := IntWalk.i64_in _ (by omega)
  have s4 : IntKind.i64.wrap (2 * a * m.pSpeed + D * b) = 2 * a * m.pSpeed + D * b := IntWalk.i64_in _ (by omega)
  have CR : Hid (∀ W, Calls Try.prog 108 #[.int .i64 (2 * a * m.pSpeed + D * b), .int .i64 (b * m.pSpeed)] W fun e w' => e = .returned (.tuple #[.int .i64 a9, .int .i64 b9]) ∧ ∃ n, w' = W.drewN n) := Lib.hid (fun W => by
    have := specRed (2 * a * m.pSpeed + D * b) (b * m.pSpeed) W (by omega) (by omega) (by omega) (by omega)
    unfold RedPost at this
    rwa [VR.out.1, VR.out.2] at this)
  have hi0 : (0 : Int) ≤ (k : Int) := by omega
  have hi1 : (k : Int) < (xs.length : Int) := by omega
  have hi2 : (xs.length : Int) ≤ 5 := by omega
  have hi3 : (k : Int) ≤ (cap : Int) := by omega
  have hi4 : (k : Int) ≤ (xs.length : Int) := by omega
  have hi5 : k ≤ cap := by omega
  clear hm hcell hc m0 m1 m2 m3 m4 hA hB hd htop dbd tbd hP hok ha hb vr L2
  go_enter Try.func96, Try.ntmps96
  go_wp2_with fail
  refine (CD.out _ (Drawn.refl _)).mono ?_
  rintro e w1 ⟨rfl, q1⟩
  obtain rfl : w = w1 := q1.symm
  go_wp2_with fail
  refine (CT.out _ (Drawn.refl _)).mono ?_
  rintro e w1 ⟨rfl, n1, rfl⟩
  have c3 := c2 n1
  go_wp2_with fail
  refine (CR.out _).mono ?_
  rintro e w2 ⟨rfl, n2, rfl⟩
  go_wp2
  go_ret2
  exact ⟨rfl, ⟨n1 + n2, rfl⟩⟩
set_option maxRecDepth 100000 in
set_option maxHeartbeats 2000000 in
theorem specFirst (xs : List GEarth) (v : Value) (n : Nat) (D r : Int) (w : World) (B : Nat) (h : EarthL w B v xs) (hok : okE xs) (hn0 : 1 ≤ n) (hn : n ≤ xs.length) (h0 : 0 ≤ D) (h1 : D ≤ 2000)
    (hr : ((bestE (viaE (prodE xs) xs D) (n - 1) : Nat) : Int) = r) :
    Calls Try.prog 97 #[v, .int .i64 n, .int .i64 D] w fun e w' => e = .returned (.int .i64 r) ∧ Drawn w w' := by
  have HL := Lib.hid h
  obtain ⟨ao, cap, rfl⟩ := h.form
  have HO := Lib.hid hok
  have HR := Lib.hid hr
  have hl5 := hok.1.2
  clear h hok hr
  go_enter Try.func97, Try.ntmps97
  go_wp2
  go_loopw [7, 8] (fun b i wr => ∃ (k q : Nat), (k < n) ∧ i = .int .i64 ((k : Int) + 1) ∧ b = .int .i64 ((bestE (viaE (prodE xs) xs D) k : Nat) : Int) ∧ wr = w.drewN q) (fun _ i _ => n - (intOf i).toNat)
  case atStart => exact ⟨0, 0, by omega, rfl, rfl, by simp [World.drewN]⟩
  case round =>
    obtain ⟨k, q, hk, rfl, rfl, hw⟩ := hrel
    have HW : Hid (Drawn w wr) := Lib.hid ⟨q, hw⟩
    clear hw
    have hbl := bestE_le (viaE (prodE xs) xs D) k
    have hi0 : (0 : Int) ≤ (k : Int) := by omega
    have hi1 : (k : Int) < (n : Int) := by omega
    have hi2 : (n : Int) ≤ 5 := by omega
    by_cases hlt : k + 1 < n
    case neg =>
      have HF : Hid (((bestE (viaE (prodE xs) xs D) k : Nat) : Int) = r) := Lib.hid (by rw [← HR.out, show n - 1 = k by omega])
      have hj : ¬ (k : Int) + 1 < (n : Int) := by omega
      generalize bestE (viaE (prodE xs) xs D) k = b at *
      go_wp2
      go_ret
      exact ⟨ret_int HF.out, HW.out⟩
    have hj : (k : Int) + 1 < (n : Int) := by omega
    have HB : Hid (bestE (viaE (prodE xs) xs D) (k + 1) = if viaE (prodE xs) xs D (k + 1) < viaE (prodE xs) xs D (bestE (viaE (prodE xs) xs D) k) then k + 1 else bestE (viaE (prodE xs) xs D) k) := Lib.hid rfl
    generalize hbb : bestE (viaE (prodE xs) xs D) k = b at *
    have hP := prodE_all HO.out
    have v1 := viaE_bd HO.out h0 h1 (k := k + 1) (by omega)
    have v2 := viaE_bd HO.out h0 h1 (k := b) (by omega)
    have r1 := red_bdE hP.1 v1.1 v1.2
    have r2 := red_bdE hP.1 v2.1 v2.2
    have hcmp := cmp_red (x := viaE (prodE xs) xs D (k + 1)) (y := viaE (prodE xs) xs D b) hP.1
    have CA : Hid (∀ W, Drawn w W → Calls Try.prog 96 #[.slice ao xs.length cap, .int .i64 ((k : Int) + 1), .int .i64 D] W fun e w' => e = .returned (.tuple #[.int .i64 (numR (viaE (prodE xs) xs D (k + 1)) (prodE xs)), .int .i64 (denR (viaE (prodE xs) xs D (k + 1)) (prodE xs))]) ∧ Drawn W w') := Lib.hid (fun W (q : Drawn w W) => specVia xs (.slice ao xs.length cap) (k + 1) D _ _ W B (HL.out.below (q.below _)) HO.out (by omega) h0 h1 rfl rfl)
    have CB := Lib.hid (fun W (q : Drawn w W) => specVia xs (.slice ao xs.length cap) b D _ _ W B (HL.out.below (q.below _)) HO.out (by omega) h0 h1 rfl rfl)
    have hPb : prodE xs ≤ 312500000 := hP.2
    generalize viaE (prodE xs) xs D (k + 1) = V1 at *
    generalize viaE (prodE xs) xs D b = V2 at *
    generalize numR V1 (prodE xs) = a1 at *
    generalize denR V1 (prodE xs) = b1 at *
    generalize numR V2 (prodE xs) = a2 at *
    generalize denR V2 (prodE xs) = b2 at *
    have m1 := mul_bdE (A := 22500000000) (C := 312500000) r1.1.1 r1.1.2 (show 0 ≤ b2 by omega) (show b2 ≤ 312500000 by omega)
    have m2 := mul_bdE (A := 22500000000) (C := 312500000) r2.1.1 r2.1.2 (show 0 ≤ b1 by omega) (show b1 ≤ 312500000 by omega)
    have s1 : IntKind.i64.wrap (a1 * b2) = a1 * b2 := IntWalk.i64_in _ (by omega)
    have s2 : IntKind.i64.wrap (a2 * b1) = a2 * b1 := IntWalk.i64_in _ (by omega)
    have s3 : IntKind.i64.wrap ((k : Int) + 1) = (k : Int) + 1 := IntWalk.i64_in _ (by omega)
    clear r1 r2 v1 v2 m1 m2 hP
    by_cases hc : V1 < V2
    case pos =>
      have g : a1 * b2 < a2 * b1 := hcmp.2 hc
      rw [if_pos hc] at HB
      clear hc hcmp
      go_wp2_with fail
      refine (CA.out _ HW.out).mono ?_
      rintro e w1 ⟨rfl, q1⟩
      have D1 : Drawn w w1 := let ⟨x, hx⟩ := HW.out; let ⟨y, hy⟩ := q1; ⟨x + y, by rw [hy, hx, World.drewN_drewN]⟩
      go_wp2_with fail
      refine (CB.out _ D1).mono ?_
      rintro e w2 ⟨rfl, q2⟩
      have D2 : Drawn w w2 := let ⟨x, hx⟩ := D1; let ⟨y, hy⟩ := q2; ⟨x + y, by rw [hy, hx, World.drewN_drewN]⟩
      clear q1 q2 D1
      go_wp2
      go_roundw
      case rel => obtain ⟨y, hy⟩ := D2; exact ⟨k + 1, y, by omega, by go_num, by rw [HB.out]; go_num, hy⟩
      case measure => simp [intOf]; omega
    case neg =>
      have g : ¬ a1 * b2 < a2 * b1 := fun q => hc (hcmp.1 q)
      rw [if_neg hc] at HB
      clear hc hcmp
      go_wp2_with fail
      refine (CA.out _ HW.out).mono ?_
      rintro e w1 ⟨rfl, q1⟩
      have D1 : Drawn w w1 := let ⟨x, hx⟩ := HW.out; let ⟨y, hy⟩ := q1; ⟨x + y, by rw [hy, hx, World.drewN_drewN]⟩
      go_wp2_with fail
      refine (CB.out _ D1).mono ?_
      rintro e w2 ⟨rfl, q2⟩
      have D2 : Drawn w w2 := let ⟨x, hx⟩ := D1; let ⟨y, hy⟩ := q2; ⟨x + y, by rw [hy, hx, World.drewN_drewN]⟩
      clear q1 q2 D1
      go_wp2
      go_roundw
      case rel => obtain ⟨y, hy⟩ := D2; exact ⟨k + 1, y, by omega, by go_num, by rw [HB.out], hy⟩
      case measure => simp [intOf]; omega
end Go.Proofs.Ytklilfbokpljkaa
