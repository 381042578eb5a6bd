/- Packing: the specification's draws. -/
import Derived.Test.YtkgohnlljbamlaaDrS
import Derived.Test.YtkgohnlljbamlaaPkC
namespace Go.Proofs.Ytkgohnlljbamlaa
open Go.ChangeShapes Go.WideShapes Go.ChangeAt Go.RowKit Go.ChangeMaps
set_option linter.unusedSimpArgs false
set_option linter.unusedVariables false

/-- A list of integers that a draw gives. -/
def DrI (w w' : World) (v : Value) (xs : List Int) : Prop := xs.length ≤ 200 ∧ (∀ x ∈ xs, -1000000 ≤ x ∧ x ≤ 1000000) ∧ Own (Value.int .i64) w' w.heap.size w'.heap.size v xs ∧ Below w.heap.size w w'
theorem smp_bd {w0 : World} {B b k : Nat} {wr : World} {v : Value} {xs : List Int} (h : Smp w0 B b k wr v xs) (hl : xs.length ≤ 40) : ∀ x ∈ xs, -1000000 ≤ x ∧ x ≤ 1000000 := fun x hx => by
  have := h.2.2.1 x hx
  omega
theorem cur_below {w w' : World} {b : Nat} {o : Obj} (hb : b = w.heap.size) (hg : (w.alloc o).grownBy w' (some b)) : Below w.heap.size w w' := by
  subst hb
  exact grown_below hg
set_option maxHeartbeats 400000 in
theorem drawDif (w : World) (B : Nat) (v : Value) (h : CodeArg w B v) :
    Calls Try.prog 43 #[v] w fun e w' => ∃ (v' : Value) (xs : List Int), e = .returned v' ∧ DrI w w' v' xs := by
  obtain ⟨h0, ao, n, cap, rfl, h2, h3⟩ := h
  have hcu := Lib.hid (cur_new w B ao n cap h0 h2 h3)
  clear h3
  go_enter Try.func43, Try.ntmps43
  go_wp2_with fail
  refine (cur_samples _ B w.heap.size 0 hcu.out (by omega)).mono ?_
  rintro e w1 ⟨v1, xs, rfl, hl, hS⟩
  obtain ⟨a1, c1, rfl⟩ := hS.2.1
  have HS := Lib.hid hS
  clear hS
  go_wp2
  go_ret
  exact ⟨_, xs, rfl, by omega, smp_bd HS.out hl, (Own.of_row HS.out.1).mono (by simp) (Nat.le_refl _), grown_below HS.out.2.2.2.2⟩
set_option maxHeartbeats 400000 in
theorem drawPck (w : World) (B : Nat) (v : Value) (h : CodeArg w B v) :
    Calls Try.prog 38 #[v] w fun e w' => ∃ (v' : Value) (xs : List Int), e = .returned v' ∧ DrI w w' v' xs := by
  go_enter Try.func38, Try.ntmps38
  go_wp2_with fail
  refine (drawDif w B v h).mono ?_
  rintro e w1 ⟨v1, xs, rfl, hD⟩
  obtain ⟨a1, c1, rfl⟩ := hD.2.2.1.form
  go_wp2
  go_ret
  exact ⟨_, xs, rfl, hD⟩
set_option maxHeartbeats 400000 in
theorem drawWc (w : World) (B : Nat) (v : Value) (h : CodeArg w B v) :
    Calls Try.prog 46 #[v] w fun e w' => ∃ (v' : Value) (xs : List Int), e = .returned v' ∧ DrI w w' v' xs := by
  go_enter Try.func46, Try.ntmps46
  go_wp2_with fail
  refine (drawDif w B v h).mono ?_
  rintro e w1 ⟨v1, xs, rfl, hD⟩
  obtain ⟨a1, c1, rfl⟩ := hD.2.2.1.form
  go_wp2
  go_ret
  exact ⟨_, xs, rfl, hD⟩
set_option maxHeartbeats 400000 in
theorem cur_diff (w : World) (B b k : Nat) (h : Cur w B b k) (hk : k ≤ 900000) :
    Calls Try.prog 73 #[.pointer (some ⟨b, 0, none⟩)] w fun e w' => ∃ x : Int, e = .returned (.int .i64 x) ∧ -1000000 ≤ x ∧ x ≤ 1000000 ∧ Cur w' B b (k + 2) ∧ w.grownBy w' (some b) := by
  go_enter Try.func73, Try.ntmps73
  go_wp2_with fail
  refine (cur_among _ B b k (h.alloc _) hk _ _ (ints_lit w b h.lt 3 15 [0, 1, -1, 95, 96, -96, -97, 4191, 4192, -4192, -4193, 200000, -200000, 200001, -200001]) (by simp) (by simp)).mono ?_
  rintro e w1 ⟨x, rfl, hx, hc1, hg1⟩
  have hx2 : -1000000 ≤ x ∧ x ≤ 1000000 := by
    revert x
    decide
  go_wp2
  go_ret
  exact ⟨x, rfl, hx2.1, hx2.2, hc1, (grown_alloc _ _ _).trans hg1⟩
set_option maxHeartbeats 400000 in
theorem drawFo (w : World) (B : Nat) (v : Value) (h : CodeArg w B v) :
    Calls Try.prog 44 #[v] w fun e w' => ∃ x : Int, e = .returned (.int .i64 x) ∧ -1000000 ≤ x ∧ x ≤ 1000000 ∧ Below w.heap.size w w' := by
  obtain ⟨h0, ao, n, cap, rfl, h2, h3⟩ := h
  have hcu := Lib.hid (cur_new w B ao n cap h0 h2 h3)
  clear h3
  go_enter Try.func44, Try.ntmps44
  go_wp2_with fail
  refine (cur_diff _ B w.heap.size 0 hcu.out (by omega)).mono ?_
  rintro e w1 ⟨x, rfl, hx1, hx2, hc1, hg1⟩
  go_wp2
  go_ret
  exact ⟨x, rfl, hx1, hx2, grown_below hg1⟩
theorem difF_bd : ∀ (xs : List Int) (l : Int), -300000 ≤ l ∧ l ≤ 300000 → (∀ x ∈ xs, -300000 ≤ x ∧ x ≤ 300000) → ∀ d ∈ difF l xs, -1000000 ≤ d ∧ d ≤ 1000000
  | [], _, _, _ => by simp [difF]
  | x :: xs, l, hl, hx => by
    have h1 := hx x (by simp)
    intro d hd
    rw [difF] at hd
    rcases List.mem_cons.1 hd with rfl | hd
    · omega
    · exact difF_bd xs x h1 (fun y hy => hx y (by simp [hy])) d hd
set_option maxRecDepth 100000 in
set_option maxHeartbeats 1000000 in
theorem drawFro (w : World) (B : Nat) (v : Value) (h : CodeArg w B v) :
    Calls Try.prog 45 #[v] w fun e w' => ∃ (v' : Value) (xs : List Int), e = .returned v' ∧ DrI w w' v' xs := by
  obtain ⟨ti, hi, hz0, hz1, hz2⟩ := info_parts infoInt
  obtain ⟨h0, ao, n, cap, rfl, h2, h3⟩ := h
  have hcu := Lib.hid (cur_new w B ao n cap h0 h2 h3)
  clear h3
  go_enter Try.func45, Try.ntmps45
  go_wp2_with fail
  refine (cur_samples _ B w.heap.size 0 hcu.out (by omega)).mono ?_
  rintro e w1 ⟨v1, xs, rfl, hl, hS⟩
  have HS := Lib.hid hS
  have z1 := hS.2.2.2.2.size
  have hbd : ∀ x ∈ xs, -300000 ≤ x ∧ x ≤ 300000 := fun x hx => by have := hS.2.2.1 x hx; omega
  have HBD := Lib.hid (difF_bd xs 0 (by omega) hbd)
  have z0 : w.heap.size + 1 ≤ w1.heap.size := by simpa using z1
  clear hS
  go_wp2_with fail
  refine (specDiffs xs _ w1 w1.heap.size (Own.of_row HS.out.1).lst (Nat.le_refl _) (by omega) (fun x hx => by have := hbd x hx; omega)).mono ?_
  rintro e w2 ⟨v2, rfl, hrow, hb2⟩
  have hc2 := HS.out.2.2.2.1.keep (World.Below_grown hb2) (by simp)
  have B2 := (grown_below HS.out.2.2.2.2).trans (hb2.mono (by omega))
  have hdl := dif_len xs
  rw [← hdl] at hrow
  have hdl2 : (dif xs).length ≤ 40 := by omega
  have HB2 := Lib.hid HBD.out
  change Hid (∀ d ∈ dif xs, -1000000 ≤ d ∧ d ≤ 1000000) at HB2
  have z2 := hb2.size
  clear hb2 hbd HBD hcu hdl
  generalize dif xs = ds at *
  go_wp2_with fail
  refine (cur_one _ B w.heap.size _ 6 hc2 (by omega) (by omega) (by omega)).mono ?_
  rintro e w3 ⟨y, rfl, hc3, hg3⟩
  have row3 := kept_row hrow hg3 (by omega)
  have B3 := B2.grown hg3 (by omega) (fun g e => by cases e; exact Nat.le_refl _)
  have z3 := hg3.size
  obtain ⟨a3, c3, rfl⟩ := row_form row3
  cases y with
  | false =>
    go_wp2
    go_ret
    exact ⟨_, ds, rfl, by omega, HB2.out, (Own.of_row row3).mono (by omega) (Nat.le_refl _), B3⟩
  | true =>
    go_wp2_with fail
    refine (cur_diff _ B w.heap.size _ hc3 (by omega)).mono ?_
    rintro e w4 ⟨x, rfl, hx1, hx2, hc4, hg4⟩
    have row4 := kept_row row3 hg4 (by omega)
    have B4 := B3.grown hg4 (by omega) (fun g e => by cases e; exact Nat.le_refl _)
    have z4 := hg4.size
    go_wp2_with (at_builtin; refine wpList_append_own _ rfl _ _ 22 rfl (w1.heap.size) 3 ti (.int .i64 0) 1 8 Try.underlying22 hi hz0 hz1 hz2 rfl (by decide) _ ds.length (ds.map (Value.int .i64)) rfl (row4.alloc _) ⟨w4.heap.size, 0, none⟩ 1 1 [.int .i64 x] rfl rfl (cell_one_new _ _ _) (by simp [Value.oneCell']) (by unfold maxLen; omega) (by omega) (by simp; omega) ?_; intro v7 w7 hown' hgrow _)
    have b7 := below_app2 row4 hgrow (show w1.heap.size ≤ w4.heap.size by omega) (Nat.le_refl _)
    have hrow7 : w7.ownsRow w1.heap.size 3 1 v7 (ds ++ [x]).length ((ds ++ [x]).map (Value.int .i64)) := by simpa using hown'
    obtain ⟨a7, c7, rfl⟩ := row_form hrow7
    clear hown' hgrow
    go_wp2
    go_ret
    refine ⟨_, ds ++ [x], rfl, by simp; omega, fun d hd => ?_, (Own.of_row hrow7).mono (by omega) (Nat.le_refl _), B4.trans (b7.mono (by omega))⟩
    rcases List.mem_append.1 hd with hd | hd
    · exact HB2.out d hd
    · rw [List.mem_singleton.1 hd]; exact ⟨hx1, hx2⟩
end Go.Proofs.Ytkgohnlljbamlaa
