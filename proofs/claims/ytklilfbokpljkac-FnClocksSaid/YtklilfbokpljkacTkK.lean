/- Tracks: ShownTick by sort.Search. -/
import Derived.Test.YtklilfbokpljkacTkJ
import Derived.Test.YtklilfbokpljkacShx
namespace Go.Proofs.Ytklilfbokpljkac
open Go.ChangeShapes Go.WideShapes Go.ChangeAt Go.RowKit Go.ChangeMaps Go.Sort Go.Shelf
set_option linter.unusedSimpArgs false
set_option linter.unusedVariables false
set_option linter.unusedSimpArgs false
set_option linter.unusedVariables false

theorem region_gr {P : Program} {id : Nat} {Q : Exit → Act → World → Prop} {a : Act} {w : World} {l : List Oper} (hm : P.follows .mixedOrders = true) (hB : Region.lexB .any l.toArray = true)
    (h : wpQuiet P l.toArray (fun w' => ∃ p : Gr, w' = grow (w.drewN p.n) p.os) (fun a' => ∀ w', (∃ p : Gr, w' = grow (w.drewN p.n) p.os) → Q .normal a' w') l a) : (Code.region id l.toArray true).wp P Q a w :=
  wp_region_quiet (C := fun w' => ∃ p : Gr, w' = grow (w.drewN p.n) p.os) hm hB ⟨⟨1, #[]⟩, by rw [grow_empty]; rfl⟩ (by simpa using h)
set_option maxRecDepth 100000 in
set_option maxHeartbeats 1000000 in
theorem cloShown (xs : List GClockMark) (v : Value) (t i : Int) (bt bx : Nat) (w : World) (B : Nat) (h : ClockMarkL w B v xs) (hB : B ≤ w.heap.size) (hg : okTk xs) (h0 : 0 ≤ i) (h1 : i ≤ 1000000)
    (ca : w.cell? ⟨bt, 0, none⟩ = some v) (cx : w.cell? ⟨bx, 0, none⟩ = some (.int .i64 t)) :
    Calls Try.prog 101 #[.int .i64 i, .pointer (some ⟨bt, 0, none⟩), .pointer (some ⟨bx, 0, none⟩)] w fun e w' => e = .returned (.bool (decide (t ≤ lineL xs i))) ∧ Grew w w' := by
  have cL := fun n os => Calls.gr_of (w := w) (n := n) (os := os) (implLineG xs v i _ B (h.below ((Grew.below ⟨n, os, rfl⟩ : Below w.heap.size w (grow (w.drewN n) os)).mono hB)) (Nat.le_trans hB (Grew.below ⟨n, os, rfl⟩ : Below w.heap.size w (grow (w.drewN n) os)).size) hg (by omega) (by omega))
  have ra := cell_gr ca
  have rx := cell_gr cx
  obtain ⟨ao, cap, rfl⟩ := h.form
  generalize lineL xs i = y at *
  clear h
  go_enter Try.func101, Try.ntmps101
  go_wp2
  refine region_gr (by kernel_rfl) (by kernel_rfl) ?_
  repeat (go_big_quiet_step (with_reducible exact cL _ _))
  refine wpQuiet_nil ?_
  intro _ hw'
  obtain ⟨⟨nq, osq⟩, hw''⟩ := hw'
  subst hw''
  go_wp2
  go_ret
  exact ⟨rfl, ⟨nq, osq, rfl⟩⟩
theorem first_count {xs : List GClockMark} (h : okTk xs) (t : Int) : isFirst xs t ((List.range 1000001).countP (fun (i : Nat) => !decide (t ≤ lineL xs (i : Int))) : Nat) := by
  have hm : ∀ a b : Nat, a ≤ b → decide (t ≤ lineL xs (a : Int)) = true → decide (t ≤ lineL xs (b : Int)) = true := fun a b hab ha => by
    have := lineL_mono xs h.2.2 h.1.1 (show (a : Int) ≤ (b : Int) by omega)
    rw [decide_eq_true_eq] at *
    omega
  have key : ∀ n : Nat, ∃ r : Nat, (List.range n).countP (fun (i : Nat) => !decide (t ≤ lineL xs (i : Int))) = r ∧ r ≤ n ∧ (∀ i : Nat, i < r → lineL xs (i : Int) < t) ∧ (r = n ∨ t ≤ lineL xs (r : Int)) := by
    intro n
    induction n with
    | zero => exact ⟨0, rfl, Nat.le_refl _, fun i hi => absurd hi (Nat.not_lt_zero _), Or.inl rfl⟩
    | succ n ih =>
      obtain ⟨r, e, hr, h1, h2⟩ := ih
      rw [List.range_succ, List.countP_append, e]
      by_cases hn : t ≤ lineL xs (n : Int)
      · refine ⟨r, by simp [hn], by omega, h1, Or.inr ?_⟩
        rcases h2 with rfl | h2
        · exact hn
        · exact h2
      · rcases h2 with rfl | h2
        · refine ⟨r + 1, by simp [hn], Nat.le_refl _, fun i hi => ?_, Or.inl rfl⟩
          rcases Nat.lt_succ_iff_lt_or_eq.1 hi with q | rfl
          · exact h1 i q
          · omega
        · exact absurd (of_decide_eq_true (hm r n hr (decide_eq_true h2))) hn
  obtain ⟨r, e, hr, h1, h2⟩ := key 1000001
  rw [e]
  refine ⟨⟨by omega, by omega⟩, fun x h0 hx => ?_, ?_⟩
  · have := h1 x.toNat (by omega)
    rwa [show ((x.toNat : Nat) : Int) = x by omega] at this
  · rcases h2 with q | q
    · exact Or.inl (by omega)
    · exact Or.inr q
theorem okST_of {xs : List GClockMark} {t r : Int} (hg : goodTk xs = true) (ht : tickB t = true) (hf : isFirst xs t r) : okST xs t = okTT xs r := by
  unfold okST okTT
  rw [firstTk_is hf, hg, ht, Bool.true_and, Bool.true_and, Bool.true_and]
  congr 1
  unfold tickB
  exact decide_eq_decide.2 ⟨fun h => ⟨hf.1.1, h⟩, fun h => h.2⟩
theorem search_enters : ∀ args w, (callFunc 101 args).run Try.prog w = .ok (.enter 101 args) w := enters_of Try.func101 (by kernel_rfl) rfl
theorem searchShown (xs : List GClockMark) (v : Value) (t : Int) (bt bx : Nat) (w : World) (B : Nat) (h : ClockMarkL w B v xs) (hB : B ≤ w.heap.size) (hg : okTk xs)
    (ca : w.cell? ⟨bt, 0, none⟩ = some v) (cx : w.cell? ⟨bx, 0, none⟩ = some (.int .i64 t)) :
    Calls Try.prog 100 #[.int .i64 1000001, .func (.func 101) #[] #[.pointer (some ⟨bt, 0, none⟩), .pointer (some ⟨bx, 0, none⟩)]] w fun e w' => (∃ r : Int, e = .returned (.int .i64 r) ∧ isFirst xs t r) ∧ Below w.heap.size w w' := by
  have hS := Any.sort_Search Try.search 101 #[.pointer (some ⟨bt, 0, none⟩), .pointer (some ⟨bx, 0, none⟩)] 1000001 (fun (i : Nat) => decide (t ≤ lineL xs (i : Int))) w search_enters (by omega)
    (fun m os i hi => (cloShown xs v t i bt bx _ B (h.below ((Grew.below ⟨m, os, rfl⟩ : Below w.heap.size w (grow (w.drewN m) os)).mono hB)) (Nat.le_trans hB (Grew.below ⟨m, os, rfl⟩ : Below w.heap.size w (grow (w.drewN m) os)).size) hg (by omega) (by omega) (cell_gr ca m os) (cell_gr cx m os)).mono fun e w' ⟨he, hw⟩ => ⟨he, hw⟩)
    (fun a b hab hb ha => by
      have := lineL_mono xs hg.2.2 hg.1.1 (show (a : Int) ≤ (b : Int) by omega)
      rw [decide_eq_true_eq] at *
      omega)
  refine Calls.mono hS ?_
  rintro e w' ⟨rfl, q, os, rfl⟩
  exact ⟨⟨_, rfl, first_count hg t⟩, Grew.below ⟨q, os, rfl⟩⟩
set_option maxRecDepth 100000 in
set_option maxHeartbeats 2000000 in
theorem implST (xs : List GClockMark) (v : Value) (t : Int) (w : World) (B : Nat) (h : ClockMarkL w B v xs) (hB : B ≤ w.heap.size) (hn : szsClockMark xs ≤ 1048576) (hw : ∀ m ∈ xs, wfClockMark m) (_ : I64 t) :
    Calls Try.prog 39 #[v, .int .i64 t] w fun e w' => e = .returned (.tuple #[.int .i64 (numST xs t), .bool (okST xs t)]) ∧ Below w.heap.size w w' := by
  obtain ⟨W0, hW0⟩ : ∃ W0, (w.alloc (.cells #[v] 45)).alloc (.cells #[.int .i64 t] 3) = W0 := ⟨_, rfl⟩
  have N1 : Below w.heap.size w W0 := hW0 ▸ ((Below.refl _ w).alloc (Nat.le_refl _) _).alloc (by simp) _
  have hz0 : W0.heap.size = w.heap.size + 2 := by rw [← hW0]; simp
  have b0 : Bx W0 w.heap.size [v] := hW0 ▸ (Bx.new w [v] 45).alloc _
  have b1 : Bx W0 (w.heap.size + 1) [.int .i64 t] := hW0 ▸ Bx.new1 w (.cells #[v] 45) [.int .i64 t] 3
  have ca := b0.2 0 _ rfl
  have cx := b1.2 0 _ rfl
  have h0 := h.below (N1.mono hB)
  have hB0 : B ≤ W0.heap.size := Nat.le_trans hB N1.size
  cases hg : goodTk xs with
  | false =>
    have C := Lib.hid (implGoodTk xs v W0 B h0 hB0 false hg)
    have HF := Lib.hid (noST (xs := xs) (x := t) (by unfold okST; rw [hg]; rfl))
    obtain ⟨ao, cap, rfl⟩ := h.form
    clear h h0 hg
    go_enter Try.func39, Try.ntmps39
    go_wp2_with fail
    refine C.out.mono ?_
    rintro e w1 ⟨rfl, hb⟩
    go_wp2
    go_ret2
    exact ⟨HF.out, N1.trans (hb.mono N1.size)⟩
  | true =>
    have C := Lib.hid (implGoodTk xs v W0 B h0 hB0 true hg)
    have hok := goodTk_yes hg
    cases ht : tickB t with
    | false =>
      have CT := Lib.hid (fun W => tickIB t false W ht)
      have HF := Lib.hid (noST (xs := xs) (x := t) (by unfold okST; rw [hg, ht]; rfl))
      obtain ⟨ao, cap, rfl⟩ := h.form
      clear h h0 hg ht hok
      go_enter Try.func39, Try.ntmps39
      go_wp2_with fail
      refine C.out.mono ?_
      rintro e w1 ⟨rfl, hb⟩
      have cx1 := cellOf hb (cell_of_lt cx) cx
      go_wp2_with fail
      refine (CT.out _).mono ?_
      rintro e w2 ⟨rfl, hw2⟩
      obtain rfl := hw2
      go_wp2
      go_ret2
      exact ⟨HF.out, N1.trans (hb.mono N1.size)⟩
    | true =>
      have CT := Lib.hid (fun W => tickIB t true W ht)
      have CS := Lib.hid (fun W (q : Below W0.heap.size W0 W) => searchShown xs v t w.heap.size (w.heap.size + 1) W B (h0.below (q.mono hB0)) (Nat.le_trans hB0 q.size) hok (cellOf q (cell_of_lt ca) ca) (cellOf q (cell_of_lt cx) cx))
      have CTT := Lib.hid (fun W (q : Below W0.heap.size W0 W) (r : Int) (hr : I64 r) => implTT xs v r W B (h0.below (q.mono hB0)) (Nat.le_trans hB0 q.size) hn hw hr)
      have HE := Lib.hid (fun r => okST_of (xs := xs) (t := t) (r := r) hg ht)
      obtain ⟨ao, cap, rfl⟩ := h.form
      clear h h0 hg ht hok
      go_enter Try.func39, Try.ntmps39
      go_wp2_with fail
      refine C.out.mono ?_
      rintro e w1 ⟨rfl, hb⟩
      have cx1 := cellOf hb (cell_of_lt cx) cx
      go_wp2_with fail
      refine (CT.out _).mono ?_
      rintro e w2 ⟨rfl, hw2⟩
      obtain rfl := hw2
      go_wp2_with fail
      refine (CS.out _ hb).mono ?_
      rintro e w3 ⟨⟨r, rfl, hf⟩, hb3⟩
      have hb4 := hb.trans (hb3.mono hb.size)
      have hr := hf.1
      have HF1 := Lib.hid (firstTk_is hf)
      have HO := Lib.hid (HE.out r hf)
      clear hf hb3 hb cx1
      have ca1 := cellOf hb4 (cell_of_lt ca) ca
      have CT2 := Lib.hid (CTT.out _ hb4 r (by unfold I64; omega))
      cases hz : okTT xs r with
      | false =>
        rw [hz] at CT2 HO
        have HF := Lib.hid (noST HO.out)
        generalize numTT xs r = nr at *
        clear hz
        go_wp2_with fail
        refine CT2.out.mono ?_
        rintro e w5 ⟨rfl, hb5⟩
        go_wp2
        go_ret2
        exact ⟨HF.out, N1.trans ((hb4.trans (hb5.mono hb4.size)).mono N1.size)⟩
      | true =>
        rw [hz] at CT2 HO
        have HF := Lib.hid (yesST HO.out HF1.out)
        generalize numTT xs r = nr at *
        clear hz
        go_wp2_with fail
        refine CT2.out.mono ?_
        rintro e w5 ⟨rfl, hb5⟩
        go_wp2
        go_ret2
        exact ⟨HF.out, N1.trans ((hb4.trans (hb5.mono hb4.size)).mono N1.size)⟩
end Go.Proofs.Ytklilfbokpljkac
