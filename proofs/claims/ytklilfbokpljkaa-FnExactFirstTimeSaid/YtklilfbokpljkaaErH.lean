/- Models of the ground: the program's fastest way, the closure of its search. -/
import Derived.Test.YtklilfbokpljkaaErG
import Derived.Test.YtklilfbokpljkaaQTail
namespace Go.Proofs.Ytklilfbokpljkaa
open Go.ChangeShapes Go.WideShapes Go.ChangeAt Go.RowKit Go.ChangeMaps Go.Sort
set_option linter.unusedSimpArgs false
set_option linter.unusedVariables false
set_option linter.unusedSimpArgs false
set_option linter.unusedVariables false

theorem region_grw {P : Program} {id : Nat} {Q : Exit → Act → World → Prop} {a : Act} {w : World} {l : List Oper} (hm : P.follows .mixedOrders = true) (hB : Region.lexB .any l.toArray = true)
    (h : wpQuiet P l.toArray (fun w' => ∃ p : Gr, w' = grow (w.drewN p.n) p.os) (fun a' => ∀ w', (∃ p : Gr, w' = grow (w.drewN p.n) p.os) → Q .normal a' w') l a) : (Code.region id l.toArray true).wp P Q a w :=
  wp_region_quiet (C := fun w' => ∃ p : Gr, w' = grow (w.drewN p.n) p.os) hm hB ⟨⟨1, #[]⟩, by rw [grow_empty]; rfl⟩ (by simpa using h)
theorem tvE_form (xs : List GEarth) : ∃ f0 f1 f2 f3 f4 t0 t1 t2 t3 t4 : Int, tvE xs = [.int .i64 xs.length, .int .i64 (prodE xs), .int .i64 f0, .int .i64 f1, .int .i64 f2, .int .i64 f3, .int .i64 f4, .int .i64 t0, .int .i64 t1, .int .i64 t2, .int .i64 t3, .int .i64 t4] := ⟨_, _, _, _, _, _, _, _, _, _, rfl⟩
theorem Grew.bx {w w' : World} (h : Grew w w') {b : Nat} {cs : List Value} (hb : Bx w b cs) : Bx w' b cs := hb.below h.below
theorem grew_gr (w : World) (n : Nat) (os : Array Obj) : Grew w (grow (w.drewN n) os) := ⟨n, os, rfl⟩
set_option maxRecDepth 100000 in
set_option maxHeartbeats 4000000 in
theorem implFast (xs : List GEarth) (D r : Int) (w : World) (hok : okE xs) (h0 : 0 ≤ D) (h1 : D ≤ 2000) (hr : ((bestE (viaE (prodE xs) xs D) (xs.length - 1) : Nat) : Int) = r) :
    Calls Try.prog 117 #[.agg (tvE xs).toArray, .int .i64 D] w fun e w' => e = .returned (.int .i64 r) ∧ Grew w w' := by
  have bx0 : Bx (w.alloc (.cells (tvE xs).toArray 89)) w.heap.size (tvE xs) := Bx.new w (tvE xs) 89
  have G0 : Grew w (w.alloc (.cells (tvE xs).toArray 89)) := (Grew.refl w).alloc _
  have CV : Hid (∀ (k : Nat) (W : World), k < xs.length → Calls Try.prog 111 #[.agg (tvE xs).toArray, .int .i64 k, .int .i64 D] W fun e w' => e = .returned (.int .i64 (viaE (prodE xs) xs D k)) ∧ Grew W w') := Lib.hid (fun k W hk => implVia xs k D _ W hok hk h0 h1 rfl)
  obtain ⟨f0, f1, f2, f3, f4, t0, t1, t2, t3, t4, ht⟩ := tvE_form xs
  rw [ht] at bx0 G0 CV ⊢
  have HR := Lib.hid hr
  have hl1 := hok.1.1
  have hl5 := hok.1.2
  clear ht hr
  generalize prodE xs = P at *
  go_enter Try.func117, Try.ntmps117
  go_wp2
  go_loopw [5, 6] (fun b i wr => ∃ (k : Nat), (k < xs.length) ∧ i = .int .i64 ((k : Int) + 1) ∧ b = .int .i64 ((bestE (viaE P xs D) k : Nat) : Int) ∧ Bx wr w.heap.size [.int .i64 xs.length, .int .i64 P, .int .i64 f0, .int .i64 f1, .int .i64 f2, .int .i64 f3, .int .i64 f4, .int .i64 t0, .int .i64 t1, .int .i64 t2, .int .i64 t3, .int .i64 t4] ∧ Grew w wr) (fun _ i _ => xs.length - (intOf i).toNat)
  case atStart => exact ⟨0, by omega, rfl, rfl, bx0, G0⟩
  case round =>
    obtain ⟨k, hk, rfl, rfl, bx, G⟩ := hrel
    have hbl := bestE_le (viaE P xs D) k
    have hi0 : (0 : Int) ≤ (k : Int) := by omega
    have hi1 : (k : Int) < (xs.length : Int) := by omega
    have hi2 : (xs.length : Int) ≤ 5 := by omega
    have c0 := bx.2 0 _ rfl
    have c1 := bx.2 1 _ rfl
    have c2 := bx.2 2 _ rfl
    have c3 := bx.2 3 _ rfl
    have c4 := bx.2 4 _ rfl
    have c5 := bx.2 5 _ rfl
    have c6 := bx.2 6 _ rfl
    have c7 := bx.2 7 _ rfl
    have c8 := bx.2 8 _ rfl
    have c9 := bx.2 9 _ rfl
    have c10 := bx.2 10 _ rfl
    have c11 := bx.2 11 _ rfl
    by_cases hlt : k + 1 < xs.length
    case neg =>
      have HF : Hid (((bestE (viaE P xs D) k : Nat) : Int) = r) := Lib.hid (by rw [← HR.out, show xs.length - 1 = k by omega])
      have hj : ¬ (k : Int) + 1 < (xs.length : Int) := by omega
      generalize bestE (viaE P xs D) k = b at *
      go_wp2
      go_ret
      exact ⟨ret_int HF.out, G⟩
    have hj : (k : Int) + 1 < (xs.length : Int) := by omega
    have HB : Hid (bestE (viaE P xs D) (k + 1) = if viaE P xs D (k + 1) < viaE P xs D (bestE (viaE P xs D) k) then k + 1 else bestE (viaE P xs D) k) := Lib.hid rfl
    generalize hbb : bestE (viaE P xs D) k = b at *
    have r0 := cell_gr c0
    have r1 := cell_gr c1
    have r2 := cell_gr c2
    have r3 := cell_gr c3
    have r4 := cell_gr c4
    have r5 := cell_gr c5
    have r6 := cell_gr c6
    have r7 := cell_gr c7
    have r8 := cell_gr c8
    have r9 := cell_gr c9
    have r10 := cell_gr c10
    have r11 := cell_gr c11
    have cA : ∀ n os, Calls Try.prog 111 #[.agg #[.int .i64 xs.length, .int .i64 P, .int .i64 f0, .int .i64 f1, .int .i64 f2, .int .i64 f3, .int .i64 f4, .int .i64 t0, .int .i64 t1, .int .i64 t2, .int .i64 t3, .int .i64 t4], .int .i64 ((k : Int) + 1), .int .i64 D] (grow (wr.drewN n) os) fun e w'' => e = .returned (.int .i64 (viaE P xs D (k + 1))) ∧ ∃ p : Gr, w'' = grow (wr.drewN p.n) p.os := fun n os => Calls.gr_of (CV.out (k + 1) _ hlt)
    have cB : ∀ n os, Calls Try.prog 111 #[.agg #[.int .i64 xs.length, .int .i64 P, .int .i64 f0, .int .i64 f1, .int .i64 f2, .int .i64 f3, .int .i64 f4, .int .i64 t0, .int .i64 t1, .int .i64 t2, .int .i64 t3, .int .i64 t4], .int .i64 ((b : Nat) : Int), .int .i64 D] (grow (wr.drewN n) os) fun e w'' => e = .returned (.int .i64 (viaE P xs D b)) ∧ ∃ p : Gr, w'' = grow (wr.drewN p.n) p.os := fun n os => Calls.gr_of (CV.out b _ (by omega))
    generalize viaE P xs D (k + 1) = V1 at *
    generalize viaE P xs D b = V2 at *
    have s3 : IntKind.i64.wrap ((k : Int) + 1) = (k : Int) + 1 := IntWalk.i64_in _ (by omega)
    clear bx0 G0
    by_cases hc : V1 < V2
    case pos =>
      rw [if_pos hc] at HB
      go_wp2
      refine region_grw (by kernel_rfl) (by kernel_rfl) ?_
      iterate 4 (go_big_quiet_step (with_reducible exact cA _ _))
      repeat (go_big_quiet_step (with_reducible exact cB _ _))
      refine wpQuiet_nil ?_
      intro _ hw'
      obtain ⟨⟨nq, osq⟩, hw''⟩ := hw'
      subst hw''
      have G2 := G.trans (grew_gr wr nq osq)
      have bx2 := (grew_gr wr nq osq).bx bx
      generalize grow (wr.drewN nq) osq = w3 at *
      clear c0 c1 c2 c3 c4 c5 c6 c7 c8 c9 c10 c11 r0 r1 r2 r3 r4 r5 r6 r7 r8 r9 r10 r11 cA cB bx G
      go_wp2
      go_roundw
      case rel => exact ⟨k + 1, by omega, by go_num, by rw [HB.out]; go_num, bx2, G2⟩
      case measure => simp [intOf]; omega
    case neg =>
      rw [if_neg hc] at HB
      go_wp2
      refine region_grw (by kernel_rfl) (by kernel_rfl) ?_
      iterate 4 (go_big_quiet_step (with_reducible exact cA _ _))
      repeat (go_big_quiet_step (with_reducible exact cB _ _))
      refine wpQuiet_nil ?_
      intro _ hw'
      obtain ⟨⟨nq, osq⟩, hw''⟩ := hw'
      subst hw''
      have G2 := G.trans (grew_gr wr nq osq)
      have bx2 := (grew_gr wr nq osq).bx bx
      generalize grow (wr.drewN nq) osq = w3 at *
      clear c0 c1 c2 c3 c4 c5 c6 c7 c8 c9 c10 c11 r0 r1 r2 r3 r4 r5 r6 r7 r8 r9 r10 r11 cA cB bx G
      go_wp2
      go_roundw
      case rel => exact ⟨k + 1, by omega, by go_num, by rw [HB.out], bx2, G2⟩
      case measure => simp [intOf]; omega

set_option maxRecDepth 100000 in
set_option maxHeartbeats 4000000 in
theorem implMin (xs : List GEarth) (D r : Int) (w : World) (hok : okE xs) (h0 : 0 ≤ D) (h1 : D ≤ 2000) (hr : minE (prodE xs) xs D = r) :
    Calls Try.prog 102 #[.agg (tvE xs).toArray, .int .i64 D] w fun e w' => e = .returned (.int .i64 r) ∧ Grew w w' := by
  have bx : Bx (w.alloc (.cells (tvE xs).toArray 89)) w.heap.size (tvE xs) := Bx.new w (tvE xs) 89
  have G0 : Grew w (w.alloc (.cells (tvE xs).toArray 89)) := (Grew.refl w).alloc _
  have hl1 := hok.1.1
  have hbl := bestE_le (viaE (prodE xs) xs D) (xs.length - 1)
  have cA := fun n os => Calls.gr_of (implFast xs D _ (grow ((w.alloc (.cells (tvE xs).toArray 89)).drewN n) os) hok h0 h1 rfl)
  have cB := fun n os => Calls.gr_of (implVia xs (bestE (viaE (prodE xs) xs D) (xs.length - 1)) D r (grow ((w.alloc (.cells (tvE xs).toArray 89)).drewN n) os) hok (by omega) h0 h1 hr)
  obtain ⟨f0, f1, f2, f3, f4, t0, t1, t2, t3, t4, ht⟩ := tvE_form xs
  rw [ht] at bx G0 cA cB ⊢
  clear ht hr
  generalize prodE xs = P at *
  generalize ((bestE (viaE P xs D) (xs.length - 1) : Nat) : Int) = be at *
  have r0 := cell_gr (bx.2 0 _ rfl)
  have r1 := cell_gr (bx.2 1 _ rfl)
  have r2 := cell_gr (bx.2 2 _ rfl)
  have r3 := cell_gr (bx.2 3 _ rfl)
  have r4 := cell_gr (bx.2 4 _ rfl)
  have r5 := cell_gr (bx.2 5 _ rfl)
  have r6 := cell_gr (bx.2 6 _ rfl)
  have r7 := cell_gr (bx.2 7 _ rfl)
  have r8 := cell_gr (bx.2 8 _ rfl)
  have r9 := cell_gr (bx.2 9 _ rfl)
  have r10 := cell_gr (bx.2 10 _ rfl)
  have r11 := cell_gr (bx.2 11 _ rfl)
  go_enter Try.func102, Try.ntmps102
  go_wp2
  refine region_grw (by kernel_rfl) (by kernel_rfl) ?_
  iterate 4 (go_big_quiet_step (with_reducible exact cA _ _))
  repeat (go_big_quiet_step (with_reducible exact cB _ _))
  refine wpQuiet_nil ?_
  intro _ hw'
  obtain ⟨⟨nq, osq⟩, hw''⟩ := hw'
  subst hw''
  go_wp2
  go_ret
  exact ⟨rfl, G0.trans (grew_gr _ nq osq)⟩
set_option maxRecDepth 100000 in
set_option maxHeartbeats 4000000 in
/-- The closure of ReachIn's search. -/
theorem cloReach (xs : List GEarth) (s D : Int) (bt bs : Nat) (w : World) (hok : okE xs) (hs0 : 0 ≤ s) (hs1 : s ≤ 100000) (h0 : 0 ≤ D) (h1 : D ≤ 2000)
    (bx : Bx w bt (tvE xs)) (cs : w.cell? ⟨bs, 0, none⟩ = some (.int .i64 s)) :
    Calls Try.prog 119 #[.int .i64 D, .pointer (some ⟨bt, 0, none⟩), .pointer (some ⟨bs, 0, none⟩)] w fun e w' => e = .returned (.bool (decide (s * prodE xs < minE (prodE xs) xs D))) ∧ Grew w w' := by
  have cA := fun n os => Calls.gr_of (implMin xs D _ (grow (w.drewN n) os) hok h0 h1 rfl)
  have hP := prodE_all hok
  have m1 := mul_bdE (A := 100000) (C := 312500000) hs0 hs1 (show 0 ≤ prodE xs by omega) hP.2
  have s1 : IntKind.i64.wrap (s * prodE xs) = s * prodE xs := IntWalk.i64_in _ (by omega)
  obtain ⟨f0, f1, f2, f3, f4, t0, t1, t2, t3, t4, ht⟩ := tvE_form xs
  rw [ht] at bx cA
  clear ht hP m1
  generalize prodE xs = P at *
  generalize minE P xs D = me at *
  have r0 := cell_gr (bx.2 0 _ rfl)
  have r1 := cell_gr (bx.2 1 _ rfl)
  have r2 := cell_gr (bx.2 2 _ rfl)
  have r3 := cell_gr (bx.2 3 _ rfl)
  have r4 := cell_gr (bx.2 4 _ rfl)
  have r5 := cell_gr (bx.2 5 _ rfl)
  have r6 := cell_gr (bx.2 6 _ rfl)
  have r7 := cell_gr (bx.2 7 _ rfl)
  have r8 := cell_gr (bx.2 8 _ rfl)
  have r9 := cell_gr (bx.2 9 _ rfl)
  have r10 := cell_gr (bx.2 10 _ rfl)
  have r11 := cell_gr (bx.2 11 _ rfl)
  have rs := cell_gr cs
  go_enter Try.func119, Try.ntmps119
  go_wp2
  refine region_grw (by kernel_rfl) (by kernel_rfl) ?_
  repeat (go_big_quiet_step (with_reducible exact cA _ _))
  refine wpQuiet_nil ?_
  intro _ hw'
  obtain ⟨⟨nq, osq⟩, hw''⟩ := hw'
  subst hw''
  go_wp2
  go_ret
  exact ⟨rfl, grew_gr _ nq osq⟩
end Go.Proofs.Ytklilfbokpljkaa
