/- A mark added to a track: the specification. -/
import Derived.Test.YtklilfbokpljkacTkP
namespace Go.Proofs.Ytklilfbokpljkac
open Go.ChangeShapes Go.WideShapes Go.ChangeAt Go.RowKit Go.ChangeMaps Go.Sort
set_option linter.unusedSimpArgs false
set_option linter.unusedVariables false

noncomputable def okAdd (xs : List GClockMark) (m : GClockMark) : Bool := goodTk xs && goodTk (putTk xs m)
noncomputable def resAdd (xs : List GClockMark) (m : GClockMark) : List GClockMark := if okAdd xs m then putTk xs m else []
theorem okAdd_yes {xs : List GClockMark} {m : GClockMark} (h : goodTk xs = true) (k : goodTk (putTk xs m) = true) : okAdd xs m = true ∧ resAdd xs m = putTk xs m := by
  have e : okAdd xs m = true := by unfold okAdd; rw [h, k]; rfl
  exact ⟨e, by unfold resAdd; rw [e]; rfl⟩
theorem okAdd_no {xs : List GClockMark} {m : GClockMark} (h : goodTk xs = false ∨ goodTk (putTk xs m) = false) : okAdd xs m = false ∧ resAdd xs m = [] := by
  have e : okAdd xs m = false := by unfold okAdd; rcases h with h | h <;> rw [h] <;> simp
  exact ⟨e, by unfold resAdd; rw [e]; rfl⟩
set_option maxRecDepth 100000 in
set_option maxHeartbeats 2000000 in
theorem specAdd (xs : List GClockMark) (m : GClockMark) (v v2 : Value) (w : World) (B : Nat) (h : ClockMarkL w B v xs) (hv2 : v2 = .agg #[.int .i64 m.pShown, .int .i64 m.pTrue]) (hB : B ≤ w.heap.size) (hn : szsClockMark xs ≤ 1048576) :
    Calls Try.prog 75 #[v, v2] w fun e w' => ∃ v', e = .returned (.tuple #[v', .bool (okAdd xs m)]) ∧ ClockMarkO w' w.heap.size w'.heap.size v' (resAdd xs m) ∧ Below w.heap.size w w' := by
  subst hv2
  have hl : xs.length ≤ 1048576 := Nat.le_trans (szsClockMark_len xs) hn
  cases hg : goodTk xs with
  | false =>
    obtain ⟨ha, hr⟩ := okAdd_no (m := m) (Or.inl hg)
    rw [ha, hr]
    have C := Lib.hid (fun W (hb : Below w.heap.size w W) => specGoodTkV xs v W B (h.below (hb.mono hB)) (Nat.le_trans hB hb.size) hl false hg)
    clear ha hr hg
    obtain ⟨ao, cap, rfl⟩ := h.form
    clear h
    go_enter Try.func75, Try.ntmps75
    go_wp2_with fail
    refine (C.out _ ((Below.refl _ _).alloc (Nat.le_refl _) _)).mono ?_
    rintro e w1 ⟨rfl, hb⟩
    have hC : Below w.heap.size w w1 := ((Below.refl _ _).alloc (Nat.le_refl _) _).trans (hb.mono (by simp))
    have hz := hC.size
    clear hb
    go_wp2
    go_ret2
    exact ⟨_, rfl, ownK_empty encClockMark_len (by omega) w1 _ hz, hC.alloc hz _⟩
  | true =>
    have C := Lib.hid (fun W (hb : Below w.heap.size w W) => specGoodTkV xs v W B (h.below (hb.mono hB)) (Nat.le_trans hB hb.size) hl true hg)
    have hk := goodTk_yes hg
    have hk1 := hk.1.1
    have hk2 := hk.1.2
    have CP := Lib.hid (fun W (hb : Below w.heap.size w W) => specPut xs v m W B (h.below (hb.mono hB)) (Nat.le_trans hB hb.size) (by omega) (by omega))
    have hpl := putTk_len xs m
    obtain ⟨ao, cap, rfl⟩ := h.form
    clear h hk
    cases hp : goodTk (putTk xs m) with
    | false =>
      obtain ⟨ha, hr⟩ := okAdd_no (m := m) (Or.inr hp)
      rw [ha, hr]
      have C2 := Lib.hid (fun v2 w2 (ho : ClockMarkO w2 w.heap.size w2.heap.size v2 (putTk xs m)) => specGoodTkV (putTk xs m) v2 w2 w2.heap.size ho.lst (Nat.le_refl _) (by omega) false hp)
      clear hp ha hr hg hpl
      have bx := Bx.new w (encClockMark m) 50
      go_enter Try.func75, Try.ntmps75
      go_wp2_with fail
      refine (C.out _ ((Below.refl _ _).alloc (Nat.le_refl _) _)).mono ?_
      rintro e w1 ⟨rfl, hb⟩
      have hC : Below w.heap.size w w1 := ((Below.refl _ _).alloc (Nat.le_refl _) _).trans (hb.mono (by simp))
      have bx1 : Bx w1 w.heap.size (encClockMark m) := bx.below hb
      have c0 : w1.cell? ⟨w.heap.size, 0, none⟩ = some (.int .i64 m.pShown) := bx1.2 0 _ rfl
      have c1 : w1.cell? ⟨w.heap.size, 1, none⟩ = some (.int .i64 m.pTrue) := bx1.2 1 _ rfl
      clear bx1 bx
      have hz := hC.size
      clear hb
      go_wp2_with fail
      refine (CP.out _ hC).mono ?_
      rintro e w2 ⟨v2, rfl, ho, hb⟩
      have hC2 := hC.trans (hb.mono hz)
      have ho2 := ho.mono hz (Nat.le_refl _)
      have hz2 := hC2.size
      clear ho
      have HO := Lib.hid ho2
      have C3 := Lib.hid (C2.out v2 w2 ho2)
      obtain ⟨ao2, cap2, rfl⟩ := ho2.form
      clear ho2 hb C2
      go_wp2_with fail
      refine C3.out.mono ?_
      rintro e w3 ⟨rfl, hb3⟩
      have hC3 := hC2.trans (hb3.mono hz2)
      have hz3 := hC3.size
      go_wp2
      go_ret2
      exact ⟨_, rfl, ownK_empty encClockMark_len (by omega) w3 _ hz3, hC3.alloc hz3 _⟩
    | true =>
      obtain ⟨ha, hr⟩ := okAdd_yes hg hp
      rw [ha, hr]
      have C2 := Lib.hid (fun v2 w2 (ho : ClockMarkO w2 w.heap.size w2.heap.size v2 (putTk xs m)) => specGoodTkV (putTk xs m) v2 w2 w2.heap.size ho.lst (Nat.le_refl _) (by omega) true hp)
      clear hp ha hr hg hpl
      have bx := Bx.new w (encClockMark m) 50
      go_enter Try.func75, Try.ntmps75
      go_wp2_with fail
      refine (C.out _ ((Below.refl _ _).alloc (Nat.le_refl _) _)).mono ?_
      rintro e w1 ⟨rfl, hb⟩
      have hC : Below w.heap.size w w1 := ((Below.refl _ _).alloc (Nat.le_refl _) _).trans (hb.mono (by simp))
      have bx1 : Bx w1 w.heap.size (encClockMark m) := bx.below hb
      have c0 : w1.cell? ⟨w.heap.size, 0, none⟩ = some (.int .i64 m.pShown) := bx1.2 0 _ rfl
      have c1 : w1.cell? ⟨w.heap.size, 1, none⟩ = some (.int .i64 m.pTrue) := bx1.2 1 _ rfl
      clear bx1 bx
      have hz := hC.size
      clear hb
      go_wp2_with fail
      refine (CP.out _ hC).mono ?_
      rintro e w2 ⟨v2, rfl, ho, hb⟩
      have hC2 := hC.trans (hb.mono hz)
      have ho2 := ho.mono hz (Nat.le_refl _)
      have hz2 := hC2.size
      clear ho
      have HO := Lib.hid ho2
      have C3 := Lib.hid (C2.out v2 w2 ho2)
      obtain ⟨ao2, cap2, rfl⟩ := ho2.form
      clear ho2 hb C2
      go_wp2_with fail
      refine C3.out.mono ?_
      rintro e w3 ⟨rfl, hb3⟩
      have hC3 := hC2.trans (hb3.mono hz2)
      have hz3 := hC3.size
      go_wp2
      go_ret2
      exact ⟨_, rfl, (HO.out.below hb3).mono (Nat.le_refl _) hb3.size, hC3⟩
end Go.Proofs.Ytklilfbokpljkac
