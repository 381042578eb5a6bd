/- Amplitudes: the program's least width, by sort.Search. -/
import Derived.Test.YtdiedfpfhbdamaaDoorAnB
import Derived.Test.YtdiedfpfhbdamaaDoorShx
import Derived.Test.YtdiedfpfhbdamaaDoorGrew
namespace Go.Proofs.YtdiedfpfhbdamaaDoor
open Go.ChangeShapes Go.WideShapes Go.ChangeAt Go.RowKit Go.ChangeMaps Go.Sort Go.Shelf
set_option linter.unusedSimpArgs false
set_option linter.unusedVariables false
set_option linter.unusedSimpArgs false
set_option linter.unusedVariables false

theorem countW (p : Nat → Bool) (hm : ∀ a b, a ≤ b → p a = true → p b = true) : ∀ n : Nat, ∃ r : Nat, (List.range n).countP (fun i => !p i) = r ∧ r ≤ n ∧ (∀ i : Nat, i < r → p i = false) ∧ (r = n ∨ p r = true)
  | 0 => ⟨0, rfl, Nat.le_refl _, fun i hi => absurd hi (Nat.not_lt_zero _), Or.inl rfl⟩
  | n + 1 => by
    obtain ⟨r, e, hr, h1, h2⟩ := countW p hm n
    rw [List.range_succ, List.countP_append, e]
    cases hn : p n with
    | true =>
      refine ⟨r, by simp [hn], by omega, h1, ?_⟩
      rcases h2 with h2 | h2
      · subst h2; exact Or.inr hn
      · exact Or.inr h2
    | false =>
      have hrn : r = n := by
        rcases h2 with h2 | h2
        · exact h2
        · have := hm r n hr h2; rw [hn] at this; cases this
      subst hrn
      refine ⟨r + 1, by simp [hn], Nat.le_refl _, fun i hi => ?_, Or.inl rfl⟩
      by_cases q : i = r
      · subst q; exact hn
      · exact h1 i (by omega)
theorem lw_enters : ∀ args w, (callFunc 28 args).run Tryd.prog w = .ok (.enter 28 args) w := enters_of Tryd.func28 (by kernel_rfl) rfl
theorem cloLw (b m i : Int) (bb bm : Nat) (u : Bool) (w : World) (h0 : 0 ≤ i) (h1 : i < 1000000) (hb0 : 0 ≤ b) (hb1 : b ≤ 600) (hm0 : -1000 ≤ m) (hm1 : m ≤ 2000) (cb : w.cell? ⟨bb, 0, none⟩ = some (.int .i64 b)) (cm : w.cell? ⟨bm, 0, none⟩ = some (.int .i64 m)) (hu : decide (m ≤ sizeV (i + 1) + b) = u) :
    Calls Tryd.prog 28 #[.int .i64 i, .pointer (some ⟨bb, 0, none⟩), .pointer (some ⟨bm, 0, none⟩)] w fun e w' => e = .returned (.bool u) ∧ Grew w w' := by
  have hs := sizeV_bd (w := i + 1) (by omega) (by omega)
  obtain ⟨z, hz⟩ : ∃ z, sizeV (i + 1) = z := ⟨_, rfl⟩
  have CZ := Lib.hid (fun W => implSize (i + 1) z W (by omega) (by omega) hz)
  rw [hz] at hu hs
  have s1 : IntKind.i64.wrap (i + 1) = i + 1 := IntWalk.i64_in _ (by omega)
  have s2 : IntKind.i64.wrap (z + b) = z + b := IntWalk.i64_in _ (by omega)
  have HU := Lib.hid hu
  clear hz hu
  go_enter Tryd.func28, Tryd.ntmps28
  go_wp2
  go_quiet ((go_at_call 29; exact Calls.quiet_of_same (CZ.out _)))
  go_wp2
  go_ret
  exact ⟨ret_bool HU.out, (Grew.refl w).drewN _⟩
theorem cell_grW {w : World} {b : Nat} {u : Value} (c : w.cell? ⟨b, 0, none⟩ = some u) (m : Nat) (os : Array Obj) : (grow (w.drewN m) os).cell? ⟨b, 0, none⟩ = some u := Grew.cell ⟨m, os, rfl⟩ c
/-- What the search finds. -/
def foundW (b m r : Int) : Prop := (0 ≤ r ∧ r ≤ 1000000) ∧ (∀ v, 1 ≤ v → v ≤ r → sizeV v + b < m) ∧ (r = 1000000 ∨ m ≤ sizeV (r + 1) + b)
theorem searchLw (b m n : Int) (bb bm : Nat) (w : World) (hn : n = 1000000) (hb0 : 0 ≤ b) (hb1 : b ≤ 600) (hm0 : -1000 ≤ m) (hm1 : m ≤ 2000) (cb : w.cell? ⟨bb, 0, none⟩ = some (.int .i64 b)) (cm : w.cell? ⟨bm, 0, none⟩ = some (.int .i64 m)) :
    Calls Tryd.prog 27 #[.int .i64 n, .func (.func 28) #[] #[.pointer (some ⟨bb, 0, none⟩), .pointer (some ⟨bm, 0, none⟩)]] w fun e w' => ∃ r, e = .returned (.int .i64 r) ∧ foundW b m r ∧ Below w.heap.size w w' := by
  have hmono : ∀ a c : Nat, a ≤ c → (c : Int) < 1000000 → decide (m ≤ sizeV ((a : Int) + 1) + b) = true → decide (m ≤ sizeV ((c : Int) + 1) + b) = true := fun a c hac hc ha => by
    have ha := of_decide_eq_true ha
    have := sizeV_mono (v := (a : Int) + 1) (w := (c : Int) + 1) (by omega) (by omega) (by omega)
    exact decide_eq_true (by omega)
  have hS := Any.sort_Search Tryd.search 28 #[.pointer (some ⟨bb, 0, none⟩), .pointer (some ⟨bm, 0, none⟩)] n.toNat (fun (i : Nat) => decide (m ≤ sizeV ((i : Int) + 1) + b)) w lw_enters (by omega)
    (fun q os i hi => (cloLw b m i bb bm _ _ (by omega) (by omega) hb0 hb1 hm0 hm1 (cell_grW cb q os) (cell_grW cm q os) rfl).mono fun e w' ⟨he, hw⟩ => ⟨he, hw⟩)
    (fun a c hab hc ha => hmono a c hab (by omega) ha)
  rw [Int.toNat_of_nonneg (show 0 ≤ n by omega)] at hS
  refine Calls.mono hS ?_
  rintro e w' ⟨rfl, q, os, rfl⟩
  obtain ⟨r, er, hr, h1, h2⟩ := countW (fun (i : Nat) => decide ((i : Int) < n) && decide (m ≤ sizeV ((i : Int) + 1) + b) || !decide ((i : Int) < n)) (fun a c hac ha => by
    rw [Bool.or_eq_true, Bool.and_eq_true] at ha ⊢
    by_cases q : (c : Int) < n
    · left
      rcases ha with ⟨_, ha⟩ | ha
      · exact ⟨decide_eq_true q, hmono a c hac (by omega) ha⟩
      · simp at ha; omega
    · right; simp; omega) n.toNat
  have ec : (List.range n.toNat).countP (fun (i : Nat) => !decide (m ≤ sizeV ((i : Int) + 1) + b)) = r := by
    rw [← er]
    apply List.countP_congr
    intro i hi
    have hi := List.mem_range.1 hi
    have : (i : Int) < n := by omega
    simp [this]
  refine ⟨(r : Int), by rw [ec], ⟨⟨by omega, by omega⟩, fun v h3 h4 => ?_, ?_⟩, Grew.below ⟨q, os, rfl⟩⟩
  · have h5 := h1 (v - 1).toNat (by omega)
    have h6 : (((v - 1).toNat : Nat) : Int) = v - 1 := by omega
    rw [h6, show v - 1 + 1 = v by omega] at h5
    have h7 : (v - 1 : Int) < n := by omega
    simp [h7] at h5
    omega
  · rcases h2 with h2 | h2
    · left; omega
    · by_cases h7 : (r : Int) < n
      · right
        simp [h7] at h2
        exact h2
      · left; omega
set_option maxRecDepth 100000 in
set_option maxHeartbeats 2000000 in
theorem implLw (xs : List GTableRow) (v : Value) (x m : Int) (w : World) (B : Nat) (h : TableRowL w B v xs) (hB : B ≤ w.heap.size) (hn : szsTableRow xs ≤ 1048576) (hw : ∀ s ∈ xs, wfTableRow s) (hx : I64 x) (hm : I64 m) :
    Calls Tryd.prog 7 #[v, .int .i64 x, .int .i64 m] w fun e w' => e = .returned (.tuple #[.int .i64 (numLw xs x m), .bool (okLw xs x m)]) ∧ Below w.heap.size w w' := by
  obtain ⟨W0, hW0⟩ : ∃ W0, w.alloc (.cells #[.int .i64 m] 3) = W0 := ⟨_, rfl⟩
  have N0 : Below w.heap.size w W0 := hW0 ▸ (Below.refl w.heap.size w).alloc (Nat.le_refl _) _
  have bM : Bx W0 w.heap.size [.int .i64 m] := hW0 ▸ Bx.new w [.int .i64 m] 3
  have z0 := N0.size
  have C1 := Lib.hid (implBn xs v x W0 B (h.below (N0.mono hB)) (Nat.le_trans hB z0) hn hw hx)
  have CI := Lib.hid (fun u W hu => implMgn m u W hu)
  obtain ⟨ao, cap, rfl⟩ := h.form
  clear h hw
  cases h1 : okBn xs x with
  | false =>
    have ek := lw_eq xs x m _ _ h1 rfl
    rw [Bool.false_and] at ek
    have HF := Lib.hid (retN (numLw_no ek).symm ek.symm)
    rw [h1] at C1
    rw [numBn_no h1] at C1
    clear ek h1
    go_enter Tryd.func7, Tryd.ntmps7
    go_wp2_with fail
    clear hW0
    refine C1.out.mono ?_
    rintro e w1 ⟨rfl, hb⟩
    have N1 := N0.trans (hb.mono z0)
    have N2 := N1.alloc N1.size (.cells #[.int .i64 0] 3)
    go_wp2
    go_ret2
    exact ⟨HF.out, N2⟩
  | true =>
  obtain ⟨hok, hx0, hr0⟩ := okBn_yes h1
  have hr1 := (bonV_bd hok x).2
  rw [h1, numBn_yes h1] at C1
  cases h2 : inB m (-1000) 2000 with
  | false =>
    have ek := lw_eq xs x m _ _ h1 h2
    rw [Bool.false_and, Bool.and_false] at ek
    have HF := Lib.hid (retN (numLw_no ek).symm ek.symm)
    have C2 := Lib.hid (fun W => CI.out false W h2)
    generalize bonV xs x = r at *
    clear ek h1 h2
    go_enter Tryd.func7, Tryd.ntmps7
    go_wp2_with fail
    clear hW0
    refine C1.out.mono ?_
    rintro e w1 ⟨rfl, hb⟩
    have N1 := N0.trans (hb.mono z0)
    obtain ⟨W2, hW2⟩ : ∃ W2, w1.alloc (.cells #[.int .i64 r] 3) = W2 := ⟨_, rfl⟩
    have N2 : Below w.heap.size w W2 := hW2 ▸ N1.alloc N1.size _
    have bM2 : Bx W2 w.heap.size [.int .i64 m] := hW2 ▸ (bM.below hb).alloc _
    have d0 := bM2.2 0 _ rfl
    clear hb bM
    go_wp2_with fail
    clear hW2
    refine (C2.out _).mono ?_
    rintro e w2 ⟨rfl, hb2⟩
    clear d0
    go_wp2
    go_ret2
    exact ⟨HF.out, N2.trans (hb2.mono N2.size)⟩
  | true =>
  have C2 := Lib.hid (fun W => CI.out true W h2)
  have ek := lw_eq xs x m _ _ h1 h2
  rw [Bool.true_and, Bool.true_and] at ek
  obtain ⟨hm0, hm1⟩ := inB_iff.1 h2
  have HN : Hid (600 + bonV xs x < m → Ending.returned (.tuple #[.int .i64 0, .bool false]) = .returned (.tuple #[.int .i64 (numLw xs x m), .bool (okLw xs x m)])) := Lib.hid (fun q => by
    rw [decide_eq_false (by omega)] at ek
    exact retN (numLw_no ek).symm ek.symm)
  have HE : Hid (∀ y, leastW (m - bonV xs x) y → m ≤ 600 + bonV xs x → Ending.returned (.tuple #[.int .i64 y, .bool true]) = .returned (.tuple #[.int .i64 (numLw xs x m), .bool (okLw xs x m)])) := Lib.hid (fun y hy q => by
    rw [decide_eq_true q] at ek
    exact retN (by rw [numLw_yes ek]; exact leastW_one hy (lwV_is (by omega))) ek.symm)
  generalize bonV xs x = r at *
  have CS : Hid (∀ (W : World) (bb bm : Nat), Bx W bb [.int .i64 r] → Bx W bm [.int .i64 m] → Calls Tryd.prog 27 #[.int .i64 1000000, .func (.func 28) #[] #[.pointer (some ⟨bb, 0, none⟩), .pointer (some ⟨bm, 0, none⟩)]] W fun e w' => ∃ q, e = .returned (.int .i64 q) ∧ foundW r m q ∧ Below W.heap.size W w') := Lib.hid (fun W bb bm q1 q2 => searchLw r m 1000000 bb bm W rfl hr0 hr1 hm0 hm1 (q1.2 0 _ rfl) (q2.2 0 _ rfl))
  have CWD := Lib.hid (fun (y : Int) u W (hu : inB y 1 1000000 = u) => implWid y u W hu)
  clear ek h1 h2
  go_enter Tryd.func7, Tryd.ntmps7
  go_wp2_with fail
  clear hW0
  refine C1.out.mono ?_
  rintro e w1 ⟨rfl, hb⟩
  have N1 := N0.trans (hb.mono z0)
  obtain ⟨W2, hW2⟩ : ∃ W2, w1.alloc (.cells #[.int .i64 r] 3) = W2 := ⟨_, rfl⟩
  have N2 : Below w.heap.size w W2 := hW2 ▸ N1.alloc N1.size _
  have bM2 : Bx W2 w.heap.size [.int .i64 m] := hW2 ▸ (bM.below hb).alloc _
  have bR2 : Bx W2 w1.heap.size [.int .i64 r] := hW2 ▸ Bx.new w1 [.int .i64 r] 3
  have d0 := bM2.2 0 _ rfl
  clear hb bM
  go_wp2_with fail
  clear hW2
  refine (C2.out _).mono ?_
  rintro e w3 ⟨rfl, hb2⟩
  have N3 := N2.trans (hb2.mono N2.size)
  have bM3 := bM2.below hb2
  have bR3 := bR2.below hb2
  clear d0 bM2 bR2 hb2 N2
  go_wp2_with fail
  refine (CS.out _ _ _ bR3 bM3).mono ?_
  rintro e w4 ⟨q, rfl, hF, hb4⟩
  have N4 := N3.trans (hb4.mono N3.size)
  obtain ⟨⟨q0, q1⟩, hlow, hhit⟩ := hF
  have s1 : IntKind.i64.wrap (1 + q) = 1 + q := IntWalk.i64_in _ (by omega)
  have s2 : wrap64 (1 + q) = 1 + q := by unfold wrap64; omega
  by_cases hq : q = 1000000
  · have h6 := hlow 1000000 (by omega) (by omega)
    rw [sizeV_top] at h6
    have HF := Lib.hid (HN.out h6)
    have C9 := Lib.hid (fun W => CWD.out (1 + q) false W (inB_no (by omega)))
    clear hlow hhit HN HE h6 hq
    go_wp2_with fail
    refine (C9.out _).mono ?_
    rintro e w5 ⟨rfl, hb5⟩
    go_wp2
    go_ret2
    exact ⟨HF.out, N4.trans (hb5.mono N4.size)⟩
  · have h7 : m ≤ sizeV (q + 1) + r := by rcases hhit with g | g; exact absurd g hq; exact g
    have h8 := (sizeV_bd (w := q + 1) (by omega) (by omega)).2
    rw [Int.add_comm q 1] at h7 h8
    have HF := Lib.hid (HE.out (1 + q) ⟨⟨by omega, by omega⟩, by omega, fun v h3 h4 => by have := hlow v h3 (by omega); omega⟩ (by omega))
    have C9 := Lib.hid (fun W => CWD.out (1 + q) true W (inB_yes (by omega)))
    clear hlow hhit HN HE h7 h8 hq
    go_wp2_with fail
    refine (C9.out _).mono ?_
    rintro e w5 ⟨rfl, hb5⟩
    go_wp2
    go_ret2
    exact ⟨HF.out, N4.trans (hb5.mono N4.size)⟩
end Go.Proofs.YtdiedfpfhbdamaaDoor
