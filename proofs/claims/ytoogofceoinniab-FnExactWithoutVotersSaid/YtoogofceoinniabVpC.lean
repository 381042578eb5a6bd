/- Votes: the program's roots, by sort.Search. -/
import Derived.Test.YtoogofceoinniabVpA
import Derived.Test.YtoogofceoinniabShx
import Derived.Test.YtoogofceoinniabGrew
namespace Go.Proofs.Ytoogofceoinniab
open Go.ChangeShapes Go.WideShapes Go.ChangeAt Go.RowKit Go.ChangeMaps Go.Sort Go.Shelf
set_option linter.unusedSimpArgs false
set_option linter.unusedVariables false
set_option linter.unusedSimpArgs false
set_option linter.unusedVariables false

theorem countV (p : Nat → Bool) (hm : ∀ a b, a ≤ b → p a = true → p b = true) : ∀ n : Nat, ∃ r : Nat, (List.range n).countP (fun i => !p i) = r ∧ r ≤ n ∧ (∀ i : Nat, i < r → p i = false) ∧ (r = n ∨ p r = true)
  | 0 => ⟨0, rfl, Nat.le_refl _, fun i hi => absurd hi (Nat.not_lt_zero _), Or.inl rfl⟩
  | n + 1 => by
    obtain ⟨r, e, hr, h1, h2⟩ := countV p hm n
    rw [List.range_succ, List.countP_append, e]
    cases hn : p n with
    | true =>
      refine ⟨r, by simp [hn], by omega, h1, ?_⟩
      rcases h2 with h2 | h2
      · subst h2; exact Or.inr hn
      · exact Or.inr h2
    | false =>
      have hrn : r = n := by
        rcases h2 with h2 | h2
        · exact h2
        · have := hm r n hr h2; rw [hn] at this; cases this
      subst hrn
      refine ⟨r + 1, by simp [hn], Nat.le_refl _, fun i hi => ?_, Or.inl rfl⟩
      by_cases q : i = r
      · subst q; exact hn
      · exact h1 i (by omega)
theorem upV_nn {n : Int} (h : 0 ≤ n) (hn : n ≤ 798400800) : 0 ≤ upV n := (upV_bd h hn).1
/-- The number of roots that are too small is the root that is rounded up. -/
theorem root_count {n : Int} (h : 0 ≤ n) (hn : n ≤ 798400800) : (((List.range n.toNat).countP (fun (i : Nat) => !decide (n ≤ (i : Int) * i)) : Nat) : Int) = upV n := by
  obtain ⟨r, e, hr, h1, h2⟩ := countV (fun (i : Nat) => decide (n ≤ (i : Int) * i)) (fun a b hab ha => by
    have ha := of_decide_eq_true ha
    have := sq_mono (a := (a : Int)) (b := (b : Int)) (by omega) (by omega)
    exact decide_eq_true (by omega)) n.toNat
  rw [e]
  have hu := upV_nn h hn
  have hle : n ≤ (r : Int) * r := by
    rcases h2 with h2 | h2
    · have hr2 : (r : Int) = n := by omega
      rw [hr2]
      rcases Int.lt_or_le 0 n with q | q
      · have := Int.mul_le_mul_of_nonneg_left (show 1 ≤ n by omega) h
        omega
      · have : n = 0 := by omega
        subst this; omega
    · exact of_decide_eq_true h2
  have g1 := (upV_le h hn (t := (r : Int)) (by omega)).1 hle
  rcases Int.lt_or_le (upV n) (r : Int) with q | q
  · have g2 := h1 (upV n).toNat (by omega)
    have g3 := of_decide_eq_false g2
    have g4 := (upV_le h hn hu).2 (Int.le_refl _)
    rw [Int.toNat_of_nonneg hu] at g3
    exact absurd g4 g3
  · omega
theorem rootV_up {n : Int} (h : 0 ≤ n) (hn : n ≤ 798400800) : (rootV n : Int) = if n < upV n * upV n then upV n - 1 else upV n := by
  obtain ⟨h1, h2, h3⟩ := rootV_bd h hn
  unfold upV
  by_cases q : (rootV n : Int) * rootV n < n
  · rw [if_pos q, if_pos h3]; omega
  · rw [if_neg q, if_neg (by omega)]
theorem root_enters : ∀ args w, (callFunc 105 args).run Try.prog w = .ok (.enter 105 args) w := enters_of Try.func105 (by kernel_rfl) rfl
theorem cloRoot (n i : Int) (bn : Nat) (u : Bool) (w : World) (h0 : 0 ≤ i) (h1 : i ≤ 798400800) (hn0 : 0 ≤ n) (hn1 : n ≤ 798400800) (cn : w.cell? ⟨bn, 0, none⟩ = some (.int .i64 n)) (hu : decide (n ≤ i * i) = u) :
    Calls Try.prog 105 #[.int .i64 i, .pointer (some ⟨bn, 0, none⟩)] w fun e w' => e = .returned (.bool u) ∧ Grew w w' := by
  obtain ⟨p, hp⟩ : ∃ p, i * i = p := ⟨_, rfl⟩
  have m0 : 0 ≤ p := by rw [← hp]; exact Int.mul_nonneg h0 h0
  have m1 : p ≤ 798400800 * 798400800 := by rw [← hp]; exact sq_mono h0 h1
  have s1 : wrap64 (i * i) = p := by rw [hp]; unfold wrap64; omega
  have s2 : IntKind.i64.wrap (i * i) = p := by rw [hp]; exact IntWalk.i64_in _ (by omega)
  rw [hp] at hu
  have HU := Lib.hid hu
  clear hp hu
  go_enter Try.func105, Try.ntmps105
  go_wp2
  go_ret
  exact ⟨ret_bool HU.out, Grew.refl w⟩
theorem cell_grV {w : World} {b : Nat} {u : Value} (c : w.cell? ⟨b, 0, none⟩ = some u) (m : Nat) (os : Array Obj) : (grow (w.drewN m) os).cell? ⟨b, 0, none⟩ = some u := Grew.cell ⟨m, os, rfl⟩ c
theorem searchRoot (n : Int) (bn : Nat) (w : World) (hn0 : 0 ≤ n) (hn1 : n ≤ 798400800) (cn : w.cell? ⟨bn, 0, none⟩ = some (.int .i64 n)) :
    Calls Try.prog 104 #[.int .i64 n, .func (.func 105) #[] #[.pointer (some ⟨bn, 0, none⟩)]] w fun e w' => e = .returned (.int .i64 (upV n)) ∧ Grew w w' := by
  have hS := Any.sort_Search Try.search 105 #[.pointer (some ⟨bn, 0, none⟩)] n.toNat (fun (i : Nat) => decide (n ≤ (i : Int) * i)) w root_enters (by omega)
    (fun m os i hi => (cloRoot n i bn _ _ (by omega) (by omega) hn0 hn1 (cell_grV cn m os) rfl).mono fun e w' ⟨he, hw⟩ => ⟨he, hw⟩)
    (fun a b hab hb ha => by
      have ha := of_decide_eq_true ha
      have := sq_mono (a := (a : Int)) (b := (b : Int)) (by omega) (by omega)
      exact decide_eq_true (by omega))
  rw [Int.toNat_of_nonneg hn0] at hS
  refine Calls.mono hS ?_
  rintro e w' ⟨rfl, q, os, rfl⟩
  exact ⟨by rw [root_count hn0 hn1], q, os, rfl⟩
theorem implRoot (n r : Int) (w : World) (hn0 : 0 ≤ n) (hn1 : n ≤ 798400800) (hr : upV n = r) :
    Calls Try.prog 99 #[.int .i64 n] w fun e w' => e = .returned (.int .i64 r) ∧ Below w.heap.size w w' := by
  have N := (Grew.refl w).alloc (.cells #[.int .i64 n] 3)
  have bn := Bx.new w [.int .i64 n] 3
  have CS := Lib.hid (searchRoot n w.heap.size _ hn0 hn1 (bn.2 0 _ rfl))
  rw [hr] at CS
  clear hr
  have c0 := bn.2 0 _ rfl
  go_enter Try.func99, Try.ntmps99
  go_wp2_with fail
  refine CS.out.mono ?_
  rintro e w1 ⟨rfl, hg⟩
  go_wp2
  go_ret
  exact ⟨rfl, (N.trans hg).below⟩
theorem implTime (d q : Int) (w : World) (h0 : 0 ≤ d) (h1 : d ≤ 4560200) (hq : 400 * d = q) :
    Calls Try.prog 97 #[.int .i64 d] w fun e w' => e = .returned (.int .i64 q) ∧ w' = w := by
  have s1 : wrap64 (400 * d) = 400 * d := by unfold wrap64; omega
  have HQ := Lib.hid hq
  clear hq
  go_enter Try.func97, Try.ntmps97
  go_wp2
  go_ret
  exact ⟨ret_int HQ.out, rfl⟩
set_option maxRecDepth 100000 in
set_option maxHeartbeats 2000000 in
theorem implSpan (a : GArrival) (x y l g : Int) (w : World) (ha : okAr a) (hx : 0 ≤ x ∧ x ≤ 999) (hy : 0 ≤ y ∧ y ≤ 999) (hl : loT a x y = l) (hg : hiT a x y = g) :
    Calls Try.prog 69 #[aggA a, .int .i64 x, .int .i64 y] w fun e w' => e = .returned (.agg #[.int .i64 l, .int .i64 g]) ∧ Below w.heap.size w w' := by
  obtain ⟨-, ⟨ax, ay⟩, ⟨ht0, ht1⟩, ⟨he0, he1⟩⟩ := id ha
  have hq := sqV_bd ax ay hx hy
  have CQ := Lib.hid (fun W => implSqOf (a.pX - x) (a.pY - y) _ W (by omega) (by omega) rfl)
  have hsq : 400 * ((a.pX - x) * (a.pX - x) + (a.pY - y) * (a.pY - y)) = sqV a.pX a.pY x y := rfl
  have CR := Lib.hid (fun W => implRoot _ _ W hq.1 hq.2 rfl)
  have hub := upV_bd hq.1 hq.2
  have hru := rootV_up hq.1 hq.2
  unfold loT at hl
  unfold hiT at hg
  generalize sqV a.pX a.pY x y = q at *
  generalize (a.pX - x) * (a.pX - x) + (a.pY - y) * (a.pY - y) = d at *
  rw [hru] at hl
  generalize upV q = up at *
  obtain ⟨uu, huu⟩ : ∃ z, up * up = z := ⟨_, rfl⟩
  rw [huu] at hl
  have HG := Lib.hid hg
  have HL := Lib.hid hl
  clear hl hg hru ha
  obtain ⟨hq0, hq1⟩ := hq
  obtain ⟨hx0, hx1⟩ := hx
  obtain ⟨hy0, hy1⟩ := hy
  obtain ⟨ax0, ax1⟩ := ax
  obtain ⟨ay0, ay1⟩ := ay
  obtain ⟨hu0, hu1⟩ := hub
  have m0 : 0 ≤ uu := by rw [← huu]; exact Int.mul_nonneg hu0 hu0
  have m1 : uu ≤ 798514564 := by
    have := sq_mono hu0 hu1
    rw [huu] at this
    exact this
  have s1 : wrap64 (up * up) = uu := by rw [huu]; unfold wrap64; omega
  have s2 : IntKind.i64.wrap (up * up) = uu := by rw [huu]; exact IntWalk.i64_in _ (by omega)
  have s3 : wrap64 (400 * d) = q := by rw [hsq]; unfold wrap64; omega
  have s4 : IntKind.i64.wrap (400 * d) = q := by rw [hsq]; exact IntWalk.i64_in _ (by omega)
  have CT := Lib.hid (fun W => implTime d q W (by omega) (by omega) hsq)
  have HSQ := Lib.hid hsq
  clear huu hsq
  obtain ⟨W0, hW0⟩ : ∃ W0, (w.alloc (.cells #[.int .i64 a.pId, .int .i64 a.pX, .int .i64 a.pY, .int .i64 a.pTick, .int .i64 a.pError] 28)).alloc (.cells #[.int .i64 0, .int .i64 0] 88) = W0 := ⟨_, rfl⟩
  have N0 : Below w.heap.size w W0 := hW0 ▸ ((Below.refl w.heap.size w).alloc (Nat.le_refl _) _).alloc (by first | omega | (simp; done) | (simp; omega)) _
  have bA : Bx W0 w.heap.size [.int .i64 a.pId, .int .i64 a.pX, .int .i64 a.pY, .int .i64 a.pTick, .int .i64 a.pError] := hW0 ▸ (Bx.new w [.int .i64 a.pId, .int .i64 a.pX, .int .i64 a.pY, .int .i64 a.pTick, .int .i64 a.pError] 28).alloc _
  have bS : Bx W0 (w.heap.size + 1) [.int .i64 0, .int .i64 0] := hW0 ▸ Bx.new1 w (.cells #[.int .i64 a.pId, .int .i64 a.pX, .int .i64 a.pY, .int .i64 a.pTick, .int .i64 a.pError] 28) [.int .i64 0, .int .i64 0] 88
  have a0 := bA.2 0 _ rfl
  have a1 := bA.2 1 _ rfl
  have a2 := bA.2 2 _ rfl
  have a3 := bA.2 3 _ rfl
  have a4 := bA.2 4 _ rfl
  go_enter Try.func69, Try.ntmps69
  go_wp2_with fail
  refine (CQ.out _).mono ?_
  rintro e w1 ⟨rfl, q1⟩
  subst q1
  clear hW0
  go_wp2_with fail
  refine (CT.out _).mono ?_
  rintro e w1 ⟨rfl, q1⟩
  subst q1
  go_wp2_with fail
  refine (CR.out _).mono ?_
  rintro e w2 ⟨rfl, hb⟩
  have N2 := N0.trans (hb.mono N0.size)
  have bA2 := bA.below hb
  have bS2 := bS.below hb
  clear a0 a1 a2 a3 a4 bA bS hb
  have a3 := bA2.2 3 _ rfl
  have a4 := bA2.2 4 _ rfl
  have r0 := bS2.2 0 _ rfl
  have r1 := bS2.2 1 _ rfl
  have rf := bS2.1.2
  by_cases k : q < uu
  case pos =>
    have hl := HL.out
    rw [if_pos k] at hl
    have HL2 := Lib.hid hl
    clear hl HL
    have p1 : IntKind.i64.wrap (a.pTick - a.pError) = a.pTick - a.pError := IntWalk.i64_in _ (by omega)
    have p2 : IntKind.i64.wrap (a.pTick + a.pError) = a.pTick + a.pError := IntWalk.i64_in _ (by omega)
    have p3 : IntKind.i64.wrap (a.pTick - a.pError - (up - 1)) = a.pTick - a.pError - (up - 1) := IntWalk.i64_in _ (by omega)
    have p4 : IntKind.i64.wrap (a.pTick + a.pError - up) = a.pTick + a.pError - up := IntWalk.i64_in _ (by omega)
    go_wp2
    rw [HL2.out, HG.out]
    refine bodyPost_ret (v := .agg #[.int .i64 l, .int .i64 g]) (by simp [results, Try.results69, go_sem, r0, r1]) rfl ⟨rfl, ?_⟩
    exact (N2.setCell (by first | omega | (simp; done) | (simp; omega)) _).setCell (by first | omega | (simp; done) | (simp; omega)) _
  case neg =>
    have hl := HL.out
    rw [if_neg k] at hl
    have HL2 := Lib.hid hl
    clear hl HL
    have p1 : IntKind.i64.wrap (a.pTick - a.pError) = a.pTick - a.pError := IntWalk.i64_in _ (by omega)
    have p2 : IntKind.i64.wrap (a.pTick + a.pError) = a.pTick + a.pError := IntWalk.i64_in _ (by omega)
    have p3 : IntKind.i64.wrap (a.pTick - a.pError - up) = a.pTick - a.pError - up := IntWalk.i64_in _ (by omega)
    have p4 : IntKind.i64.wrap (a.pTick + a.pError - up) = a.pTick + a.pError - up := IntWalk.i64_in _ (by omega)
    go_wp2
    rw [HL2.out, HG.out]
    refine bodyPost_ret (v := .agg #[.int .i64 l, .int .i64 g]) (by simp [results, Try.results69, go_sem, r0, r1]) rfl ⟨rfl, ?_⟩
    exact (N2.setCell (by first | omega | (simp; done) | (simp; omega)) _).setCell (by first | omega | (simp; done) | (simp; omega)) _
theorem spanHas (l g t : Int) (u : Bool) (w : World) (hu : decide (l ≤ t ∧ t ≤ g) = u) :
    Calls Try.prog 93 #[.agg #[.int .i64 l, .int .i64 g], .int .i64 t] w fun e w' => e = .returned (.bool u) ∧ Below w.heap.size w w' := by
  obtain ⟨W0, hW0⟩ : ∃ W0, w.alloc (.cells #[.int .i64 l, .int .i64 g] 88) = W0 := ⟨_, rfl⟩
  have N0 : Below w.heap.size w W0 := hW0 ▸ (Below.refl w.heap.size w).alloc (Nat.le_refl _) _
  have bS : Bx W0 w.heap.size [.int .i64 l, .int .i64 g] := hW0 ▸ Bx.new w [.int .i64 l, .int .i64 g] 88
  have s0 := bS.2 0 _ rfl
  have s1 := bS.2 1 _ rfl
  have N1 := Lib.hid (N0.alloc N0.size (.cells #[.int .i64 t] 3))
  have CI := Lib.hid (withinOneV l g t _ u _ (Bx.new W0 [.int .i64 t] 3) hu)
  clear hu bS
  go_enter Try.func93, Try.ntmps93
  go_wp2_with fail
  refine CI.out.mono ?_
  rintro e w9 ⟨rfl, q9⟩
  subst q9
  go_wp2
  go_ret
  exact ⟨rfl, N1.out⟩
theorem spanEmpty (l g : Int) (u : Bool) (w : World) (hu : decide (g < l) = u) :
    Calls Try.prog 70 #[.agg #[.int .i64 l, .int .i64 g]] w fun e w' => e = .returned (.bool u) ∧ Below w.heap.size w w' := by
  have N0 := Lib.hid ((Below.refl w.heap.size w).alloc (Nat.le_refl _) (.cells #[.int .i64 l, .int .i64 g] 88))
  subst hu
  go_enter Try.func70, Try.ntmps70
  go_wp2
  go_ret
  exact ⟨rfl, N0.out⟩
end Go.Proofs.Ytoogofceoinniab
