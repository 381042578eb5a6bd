/- The specification's draws for the laws on triggers. -/
import Derived.Test.YtklilfbokpljkabTdB
namespace Go.Proofs.Ytklilfbokpljkab
open Go.ChangeShapes Go.WideShapes Go.ChangeAt Go.RowKit Go.ChangeMaps
set_option linter.unusedSimpArgs false
set_option linter.unusedVariables false

/-- Samples and a setting that a draw gives. -/
structure DrTg (w w' : World) (v : Value) (xs : List Int) (s : GSetting) : Prop where
  own : Own (Value.int .i64) w' w.heap.size w'.heap.size v xs
  len : xs.length ≤ 200
  bd : ∀ x ∈ xs, I64 x
  bs : BdS s
  below : Below w.heap.size w w'
theorem cur_new1G (w : World) (o : Obj) (B : Nat) (ao : Option Addr) (n cap : Nat) (hB : B ≤ w.heap.size) (hn : n ≤ 65536) (hc : Code w B ao n) :
    Cur ((w.alloc o).alloc (.cells #[.slice ao n cap, .int .i64 0, .int .u64 0] 98)) B (w.heap.size + 1) 0 := by
  have h := cur_new (w.alloc o) B ao n cap (by simp; omega) hn (hc.keep fun bb o' hbb => ((Below.refl B w).alloc hB o).cell (p := ⟨bb, o', none⟩) hbb)
  rwa [World.size_alloc] at h
theorem smp_i64 {w0 wr : World} {B b k : Nat} {v : Value} {xs : List Int} (h : Smp w0 B b k wr v xs) (hl : xs.length ≤ 40) : ∀ x ∈ xs, I64 x := fun x hx => by
  have := h.2.2.1 x hx
  unfold I64
  omega
theorem grown_two {w w' : World} {o p : Obj} (h : ((w.alloc o).alloc p).grownBy w' (some (w.heap.size + 1))) : Below w.heap.size w w' := by
  have h1 := ((Below.refl w.heap.size w).alloc (Nat.le_refl _) o).alloc (by simp) p
  exact h1.grown h (by simp; omega) (fun g e => by cases e; omega)
theorem Below.puts4 {B : Nat} {a w : World} (h : Below B a w) {b : Nat} (hb : B ≤ b) (x0 x1 x2 x3 : Value) : Below B a ((((w.setCell ⟨b, 0, none⟩ x0).setCell ⟨b, 1, none⟩ x1).setCell ⟨b, 2, none⟩ x2).setCell ⟨b, 3, none⟩ x3) :=
  (((h.setCell (p := ⟨b, 0, none⟩) hb _).setCell (p := ⟨b, 1, none⟩) hb _).setCell (p := ⟨b, 2, none⟩) hb _).setCell (p := ⟨b, 3, none⟩) hb _
theorem row_puts4 {w : World} {base size n : Nat} {e : TypeId} {v : Value} {xs : List Value} (h : w.ownsRow base e size v n xs) {b : Nat} (hb : b < base) (x0 x1 x2 x3 : Value) :
    ((((w.setCell ⟨b, 0, none⟩ x0).setCell ⟨b, 1, none⟩ x1).setCell ⟨b, 2, none⟩ x2).setCell ⟨b, 3, none⟩ x3).ownsRow base e size v n xs :=
  ownsRow_setCell_below (ownsRow_setCell_below (ownsRow_setCell_below (ownsRow_setCell_below h (a := ⟨b, 0, none⟩) hb _) (a := ⟨b, 1, none⟩) hb _) (a := ⟨b, 2, none⟩) hb _) (a := ⟨b, 3, none⟩) hb _
set_option maxRecDepth 100000 in
set_option maxHeartbeats 4000000 in
theorem drawOP (w : World) (B : Nat) (v : Value) (h : CodeArg w B v) :
    Calls Try.prog 85 #[v] w fun e w' => ∃ (v' : Value) (xs : List Int) (s : GSetting), e = .returned (.tuple #[v', .agg #[.int .i64 s.pShort, .int .i64 s.pLong, .int .i64 s.pOn, .int .i64 s.pOff]]) ∧ DrTg w w' v' xs s := by
  obtain ⟨h0, ao, n, cap, rfl, h2, h3⟩ := h
  have hcu := Lib.hid (cur_new1G w (.cells #[.int .i64 0, .int .i64 0, .int .i64 0, .int .i64 0] 28) B ao n cap h0 h2 h3)
  have d0 := (Bx.new w [.int .i64 0, .int .i64 0, .int .i64 0, .int .i64 0] 28).alloc (.cells #[.slice ao n cap, .int .i64 0, .int .u64 0] 98)
  have hz : w.heap.size + 2 ≤ ((w.alloc (.cells #[.int .i64 0, .int .i64 0, .int .i64 0, .int .i64 0] 28)).alloc (.cells #[.slice ao n cap, .int .i64 0, .int .u64 0] 98)).heap.size := by simp
  clear h3
  go_enter Try.func85, Try.ntmps85
  go_wp2_with fail
  refine (cur_shaken _ B (w.heap.size + 1) 0 hcu.out (by omega)).mono ?_
  rintro e w1 ⟨v1, xs, rfl, hl, hS⟩
  obtain ⟨a1, c1, rfl⟩ := hS.2.1
  have d1 := d0.grown hS.2.2.2.2 (by simp)
  have HS := Lib.hid hS
  have z1 := Nat.le_trans hz hS.2.2.2.2.size
  clear hS d0
  go_wp2_with fail
  refine (cur_setting w1 B (w.heap.size + 1) _ HS.out.2.2.2.1 (by omega)).mono ?_
  rintro e w2 ⟨s, rfl, hbs, hc2, hg2⟩
  have HS2 := Lib.hid (HS.out.draw (k2 := 800) (by simp) hg2 hc2 (by omega))
  have d2 := d1.grown hg2 (by simp)
  have z2 := Nat.le_trans z1 hg2.size
  clear hg2 d1 HS
  have x0 := d2.2 0 _ rfl
  have x1 := d2.2 1 _ rfl
  have x2 := d2.2 2 _ rfl
  have x3 := d2.2 3 _ rfl
  have xf := d2.1.2
  go_wp2
  have hrow := row_puts4 HS2.out.1 (b := w.heap.size) (by simp; omega) (.int .i64 s.pShort) (.int .i64 s.pLong) (.int .i64 s.pOn) (.int .i64 s.pOff)
  have hlow := Below.puts4 (grown_two HS2.out.2.2.2.2) (b := w.heap.size) (Nat.le_refl _) (.int .i64 s.pShort) (.int .i64 s.pLong) (.int .i64 s.pOn) (.int .i64 s.pOff)
  refine bodyPost_ret (v := .tuple #[.slice a1 xs.length c1, .agg #[.int .i64 s.pShort, .int .i64 s.pLong, .int .i64 s.pOn, .int .i64 s.pOff]]) (by simp [results, Try.results85, go_sem, x0, x1, x2, x3]) rfl ⟨_, xs, s, rfl, ⟨(Own.of_row hrow).mono (by simp; omega) (Nat.le_refl _), by omega, smp_i64 HS2.out hl, hbs, hlow⟩⟩
set_option maxRecDepth 100000 in
set_option maxHeartbeats 4000000 in
theorem drawRA (w : World) (B : Nat) (v : Value) (h : CodeArg w B v) :
    Calls Try.prog 43 #[v] w fun e w' => ∃ (v' : Value) (xs : List Int) (s : GSetting) (p : Int), e = .returned (.tuple #[v', .agg #[.int .i64 s.pShort, .int .i64 s.pLong, .int .i64 s.pOn, .int .i64 s.pOff], .int .i64 p]) ∧ (-1 ≤ p ∧ p ≤ 300) ∧ DrTg w w' v' xs s := by
  obtain ⟨h0, ao, n, cap, rfl, h2, h3⟩ := h
  have hcu := Lib.hid (cur_new1G w (.cells #[.int .i64 0, .int .i64 0, .int .i64 0, .int .i64 0] 28) B ao n cap h0 h2 h3)
  have d0 := (Bx.new w [.int .i64 0, .int .i64 0, .int .i64 0, .int .i64 0] 28).alloc (.cells #[.slice ao n cap, .int .i64 0, .int .u64 0] 98)
  have hz : w.heap.size + 2 ≤ ((w.alloc (.cells #[.int .i64 0, .int .i64 0, .int .i64 0, .int .i64 0] 28)).alloc (.cells #[.slice ao n cap, .int .i64 0, .int .u64 0] 98)).heap.size := by simp
  clear h3
  go_enter Try.func43, Try.ntmps43
  go_wp2_with fail
  refine (cur_shaken _ B (w.heap.size + 1) 0 hcu.out (by omega)).mono ?_
  rintro e w1 ⟨v1, xs, rfl, hl, hS⟩
  obtain ⟨a1, c1, rfl⟩ := hS.2.1
  have d1 := d0.grown hS.2.2.2.2 (by simp)
  have HS := Lib.hid hS
  have z1 := Nat.le_trans hz hS.2.2.2.2.size
  clear hS d0
  go_wp2_with fail
  refine (cur_setting w1 B (w.heap.size + 1) _ HS.out.2.2.2.1 (by omega)).mono ?_
  rintro e w2 ⟨s, rfl, hbs, hc2, hg2⟩
  have HS2 := Lib.hid (HS.out.draw (k2 := 800) (by simp) hg2 hc2 (by omega))
  have d2 := d1.grown hg2 (by simp)
  have z2 := Nat.le_trans z1 hg2.size
  clear hg2 d1 HS
  have hxi : (xs.length : Int) + 1 ≤ 41 := by omega
  have hxj : (1 : Int) ≤ (xs.length : Int) + 1 := by omega
  go_wp2_with fail
  refine (cur_pick _ B _ _ ((xs.length : Int) + 1) hc2 (by omega) (by omega) (by omega)).mono ?_
  rintro e w3 ⟨p, rfl, hp0, hp1, hc3, hg3⟩
  have HS3 := Lib.hid (HS2.out.draw (k2 := 802) (by simp) hg3 hc3 (by omega))
  have d3 := d2.grown hg3 (by simp)
  have z3 := Nat.le_trans z2 hg3.size
  clear hg3 d2 HS2 hc2
  go_wp2_with fail
  refine (cur_pick _ B _ _ 17 hc3 (by omega) (by omega) (by omega)).mono ?_
  rintro e w4 ⟨q, rfl, hq0, hq1, hc4, hg4⟩
  have HS4 := Lib.hid (HS3.out.draw (k2 := 804) (by simp) hg4 hc4 (by omega))
  have d4 := d3.grown hg4 (by simp)
  have z4 := Nat.le_trans z3 hg4.size
  have tq : Int.tdiv q 16 = q / 16 := Int.tdiv_eq_ediv_of_nonneg hq0
  have tw : IntKind.i64.wrap (Int.tdiv q 16) = q / 16 := by rw [tq]; exact IntWalk.i64_in _ (by omega)
  clear hg4 d3 HS3 hc3 tq
  have x0 := d4.2 0 _ rfl
  have x1 := d4.2 1 _ rfl
  have x2 := d4.2 2 _ rfl
  have x3 := d4.2 3 _ rfl
  have xf := d4.1.2
  go_wp2
  have hrow := row_puts4 HS4.out.1 (b := w.heap.size) (by simp; omega) (.int .i64 s.pShort) (.int .i64 s.pLong) (.int .i64 s.pOn) (.int .i64 s.pOff)
  have hlow := Below.puts4 (grown_two HS4.out.2.2.2.2) (b := w.heap.size) (Nat.le_refl _) (.int .i64 s.pShort) (.int .i64 s.pLong) (.int .i64 s.pOn) (.int .i64 s.pOff)
  refine bodyPost_ret (v := .tuple #[.slice a1 xs.length c1, .agg #[.int .i64 s.pShort, .int .i64 s.pLong, .int .i64 s.pOn, .int .i64 s.pOff], .int .i64 (p - q / 16)]) (by simp [results, Try.results43, go_sem, x0, x1, x2, x3]) rfl ⟨_, xs, s, _, rfl, (by omega), ⟨(Own.of_row hrow).mono (by simp; omega) (Nat.le_refl _), by omega, smp_i64 HS4.out hl, hbs, hlow⟩⟩
set_option maxRecDepth 100000 in
set_option maxHeartbeats 2000000 in
theorem drawTg (w : World) (B : Nat) (v : Value) (h : CodeArg w B v) :
    Calls Try.prog 44 #[v] w fun e w' => ∃ (v' : Value) (xs : List Int) (s : GSetting), e = .returned (.tuple #[v', .agg #[.int .i64 s.pShort, .int .i64 s.pLong, .int .i64 s.pOn, .int .i64 s.pOff]]) ∧ DrTg w w' v' xs s := by
  have N0 := (Below.refl w.heap.size w).alloc (Nat.le_refl _) (.cells #[.int .i64 0, .int .i64 0, .int .i64 0, .int .i64 0] 28)
  have d0 := Bx.new w [.int .i64 0, .int .i64 0, .int .i64 0, .int .i64 0] 28
  have C := Lib.hid (drawOP _ B v (h.below (((Below.refl B w).alloc h.1 (.cells #[.int .i64 0, .int .i64 0, .int .i64 0, .int .i64 0] 28)))))
  obtain ⟨h0, ao, n, cap, rfl, h2, h3⟩ := h
  clear h3
  go_enter Try.func44, Try.ntmps44
  go_wp2_with fail
  refine C.out.mono ?_
  rintro e w1 ⟨v1, xs, s, rfl, hD⟩
  obtain ⟨a1, c1, rfl⟩ := hD.own.form
  have d1 := d0.below hD.below
  have x0 := d1.2 0 _ rfl
  have x1 := d1.2 1 _ rfl
  have x2 := d1.2 2 _ rfl
  have x3 := d1.2 3 _ rfl
  have xf := d1.1.2
  have hown := ((((hD.own.setLow (p := ⟨w.heap.size, 0, none⟩) (by simp) (.int .i64 s.pShort)).setLow (p := ⟨w.heap.size, 1, none⟩) (by simp) (.int .i64 s.pLong)).setLow (p := ⟨w.heap.size, 2, none⟩) (by simp) (.int .i64 s.pOn)).setLow (p := ⟨w.heap.size, 3, none⟩) (by simp) (.int .i64 s.pOff)).mono (L' := w.heap.size) (B' := w1.heap.size) (by simp) (Nat.le_refl _)
  have hlow := Below.puts4 (N0.trans (hD.below.mono N0.size)) (b := w.heap.size) (Nat.le_refl _) (.int .i64 s.pShort) (.int .i64 s.pLong) (.int .i64 s.pOn) (.int .i64 s.pOff)
  go_wp2
  refine bodyPost_ret (v := .tuple #[.slice a1 xs.length c1, .agg #[.int .i64 s.pShort, .int .i64 s.pLong, .int .i64 s.pOn, .int .i64 s.pOff]]) (by simp [results, Try.results44, go_sem, x0, x1, x2, x3]) rfl ⟨_, xs, s, rfl, ⟨hown.mono (Nat.le_refl _) (by simp [World.setCell]), hD.len, hD.bd, hD.bs, hlow⟩⟩
set_option maxRecDepth 100000 in
set_option maxHeartbeats 2000000 in
theorem drawLo (w : World) (B : Nat) (v : Value) (h : CodeArg w B v) :
    Calls Try.prog 50 #[v] w fun e w' => ∃ (v' : Value) (xs : List Int) (s : GSetting), e = .returned (.tuple #[v', .agg #[.int .i64 s.pShort, .int .i64 s.pLong, .int .i64 s.pOn, .int .i64 s.pOff]]) ∧ DrTg w w' v' xs s := by
  have N0 := (Below.refl w.heap.size w).alloc (Nat.le_refl _) (.cells #[.int .i64 0, .int .i64 0, .int .i64 0, .int .i64 0] 28)
  have d0 := Bx.new w [.int .i64 0, .int .i64 0, .int .i64 0, .int .i64 0] 28
  have C := Lib.hid (drawOP _ B v (h.below (((Below.refl B w).alloc h.1 (.cells #[.int .i64 0, .int .i64 0, .int .i64 0, .int .i64 0] 28)))))
  obtain ⟨h0, ao, n, cap, rfl, h2, h3⟩ := h
  clear h3
  go_enter Try.func50, Try.ntmps50
  go_wp2_with fail
  refine C.out.mono ?_
  rintro e w1 ⟨v1, xs, s, rfl, hD⟩
  obtain ⟨a1, c1, rfl⟩ := hD.own.form
  have d1 := d0.below hD.below
  have x0 := d1.2 0 _ rfl
  have x1 := d1.2 1 _ rfl
  have x2 := d1.2 2 _ rfl
  have x3 := d1.2 3 _ rfl
  have xf := d1.1.2
  have hown := ((((hD.own.setLow (p := ⟨w.heap.size, 0, none⟩) (by simp) (.int .i64 s.pShort)).setLow (p := ⟨w.heap.size, 1, none⟩) (by simp) (.int .i64 s.pLong)).setLow (p := ⟨w.heap.size, 2, none⟩) (by simp) (.int .i64 s.pOn)).setLow (p := ⟨w.heap.size, 3, none⟩) (by simp) (.int .i64 s.pOff)).mono (L' := w.heap.size) (B' := w1.heap.size) (by simp) (Nat.le_refl _)
  have hlow := Below.puts4 (N0.trans (hD.below.mono N0.size)) (b := w.heap.size) (Nat.le_refl _) (.int .i64 s.pShort) (.int .i64 s.pLong) (.int .i64 s.pOn) (.int .i64 s.pOff)
  go_wp2
  refine bodyPost_ret (v := .tuple #[.slice a1 xs.length c1, .agg #[.int .i64 s.pShort, .int .i64 s.pLong, .int .i64 s.pOn, .int .i64 s.pOff]]) (by simp [results, Try.results50, go_sem, x0, x1, x2, x3]) rfl ⟨_, xs, s, rfl, ⟨hown.mono (Nat.le_refl _) (by simp [World.setCell]), hD.len, hD.bd, hD.bs, hlow⟩⟩
set_option maxRecDepth 100000 in
set_option maxHeartbeats 2000000 in
theorem drawGr (w : World) (B : Nat) (v : Value) (h : CodeArg w B v) :
    Calls Try.prog 40 #[v] w fun e w' => ∃ (v' : Value) (xs : List Int) (s : GSetting), e = .returned (.tuple #[v', .agg #[.int .i64 s.pShort, .int .i64 s.pLong, .int .i64 s.pOn, .int .i64 s.pOff]]) ∧ DrTg w w' v' xs s := by
  have N0 := (Below.refl w.heap.size w).alloc (Nat.le_refl _) (.cells #[.int .i64 0, .int .i64 0, .int .i64 0, .int .i64 0] 28)
  have d0 := Bx.new w [.int .i64 0, .int .i64 0, .int .i64 0, .int .i64 0] 28
  have C := Lib.hid (drawOP _ B v (h.below (((Below.refl B w).alloc h.1 (.cells #[.int .i64 0, .int .i64 0, .int .i64 0, .int .i64 0] 28)))))
  obtain ⟨h0, ao, n, cap, rfl, h2, h3⟩ := h
  clear h3
  go_enter Try.func40, Try.ntmps40
  go_wp2_with fail
  refine C.out.mono ?_
  rintro e w1 ⟨v1, xs, s, rfl, hD⟩
  obtain ⟨a1, c1, rfl⟩ := hD.own.form
  have d1 := d0.below hD.below
  have x0 := d1.2 0 _ rfl
  have x1 := d1.2 1 _ rfl
  have x2 := d1.2 2 _ rfl
  have x3 := d1.2 3 _ rfl
  have xf := d1.1.2
  have hown := ((((hD.own.setLow (p := ⟨w.heap.size, 0, none⟩) (by simp) (.int .i64 s.pShort)).setLow (p := ⟨w.heap.size, 1, none⟩) (by simp) (.int .i64 s.pLong)).setLow (p := ⟨w.heap.size, 2, none⟩) (by simp) (.int .i64 s.pOn)).setLow (p := ⟨w.heap.size, 3, none⟩) (by simp) (.int .i64 s.pOff)).mono (L' := w.heap.size) (B' := w1.heap.size) (by simp) (Nat.le_refl _)
  have hlow := Below.puts4 (N0.trans (hD.below.mono N0.size)) (b := w.heap.size) (Nat.le_refl _) (.int .i64 s.pShort) (.int .i64 s.pLong) (.int .i64 s.pOn) (.int .i64 s.pOff)
  go_wp2
  refine bodyPost_ret (v := .tuple #[.slice a1 xs.length c1, .agg #[.int .i64 s.pShort, .int .i64 s.pLong, .int .i64 s.pOn, .int .i64 s.pOff]]) (by simp [results, Try.results40, go_sem, x0, x1, x2, x3]) rfl ⟨_, xs, s, rfl, ⟨hown.mono (Nat.le_refl _) (by simp [World.setCell]), hD.len, hD.bd, hD.bs, hlow⟩⟩
set_option maxRecDepth 100000 in
set_option maxHeartbeats 2000000 in
theorem drawLe (w : World) (B : Nat) (v : Value) (h : CodeArg w B v) :
    Calls Try.prog 41 #[v] w fun e w' => ∃ (v' : Value) (xs : List Int) (s : GSetting), e = .returned (.tuple #[v', .agg #[.int .i64 s.pShort, .int .i64 s.pLong, .int .i64 s.pOn, .int .i64 s.pOff]]) ∧ DrTg w w' v' xs s := by
  have N0 := (Below.refl w.heap.size w).alloc (Nat.le_refl _) (.cells #[.int .i64 0, .int .i64 0, .int .i64 0, .int .i64 0] 28)
  have d0 := Bx.new w [.int .i64 0, .int .i64 0, .int .i64 0, .int .i64 0] 28
  have C := Lib.hid (drawOP _ B v (h.below (((Below.refl B w).alloc h.1 (.cells #[.int .i64 0, .int .i64 0, .int .i64 0, .int .i64 0] 28)))))
  obtain ⟨h0, ao, n, cap, rfl, h2, h3⟩ := h
  clear h3
  go_enter Try.func41, Try.ntmps41
  go_wp2_with fail
  refine C.out.mono ?_
  rintro e w1 ⟨v1, xs, s, rfl, hD⟩
  obtain ⟨a1, c1, rfl⟩ := hD.own.form
  have d1 := d0.below hD.below
  have x0 := d1.2 0 _ rfl
  have x1 := d1.2 1 _ rfl
  have x2 := d1.2 2 _ rfl
  have x3 := d1.2 3 _ rfl
  have xf := d1.1.2
  have hown := ((((hD.own.setLow (p := ⟨w.heap.size, 0, none⟩) (by simp) (.int .i64 s.pShort)).setLow (p := ⟨w.heap.size, 1, none⟩) (by simp) (.int .i64 s.pLong)).setLow (p := ⟨w.heap.size, 2, none⟩) (by simp) (.int .i64 s.pOn)).setLow (p := ⟨w.heap.size, 3, none⟩) (by simp) (.int .i64 s.pOff)).mono (L' := w.heap.size) (B' := w1.heap.size) (by simp) (Nat.le_refl _)
  have hlow := Below.puts4 (N0.trans (hD.below.mono N0.size)) (b := w.heap.size) (Nat.le_refl _) (.int .i64 s.pShort) (.int .i64 s.pLong) (.int .i64 s.pOn) (.int .i64 s.pOff)
  go_wp2
  refine bodyPost_ret (v := .tuple #[.slice a1 xs.length c1, .agg #[.int .i64 s.pShort, .int .i64 s.pLong, .int .i64 s.pOn, .int .i64 s.pOff]]) (by simp [results, Try.results41, go_sem, x0, x1, x2, x3]) rfl ⟨_, xs, s, rfl, ⟨hown.mono (Nat.le_refl _) (by simp [World.setCell]), hD.len, hD.bd, hD.bs, hlow⟩⟩
set_option maxRecDepth 100000 in
set_option maxHeartbeats 2000000 in
theorem drawFm (w : World) (B : Nat) (v : Value) (h : CodeArg w B v) :
    Calls Try.prog 42 #[v] w fun e w' => ∃ (v' : Value) (xs : List Int) (s : GSetting), e = .returned (.tuple #[v', .agg #[.int .i64 s.pShort, .int .i64 s.pLong, .int .i64 s.pOn, .int .i64 s.pOff]]) ∧ DrTg w w' v' xs s := by
  have N0 := (Below.refl w.heap.size w).alloc (Nat.le_refl _) (.cells #[.int .i64 0, .int .i64 0, .int .i64 0, .int .i64 0] 28)
  have d0 := Bx.new w [.int .i64 0, .int .i64 0, .int .i64 0, .int .i64 0] 28
  have C := Lib.hid (drawOP _ B v (h.below (((Below.refl B w).alloc h.1 (.cells #[.int .i64 0, .int .i64 0, .int .i64 0, .int .i64 0] 28)))))
  obtain ⟨h0, ao, n, cap, rfl, h2, h3⟩ := h
  clear h3
  go_enter Try.func42, Try.ntmps42
  go_wp2_with fail
  refine C.out.mono ?_
  rintro e w1 ⟨v1, xs, s, rfl, hD⟩
  obtain ⟨a1, c1, rfl⟩ := hD.own.form
  have d1 := d0.below hD.below
  have x0 := d1.2 0 _ rfl
  have x1 := d1.2 1 _ rfl
  have x2 := d1.2 2 _ rfl
  have x3 := d1.2 3 _ rfl
  have xf := d1.1.2
  have hown := ((((hD.own.setLow (p := ⟨w.heap.size, 0, none⟩) (by simp) (.int .i64 s.pShort)).setLow (p := ⟨w.heap.size, 1, none⟩) (by simp) (.int .i64 s.pLong)).setLow (p := ⟨w.heap.size, 2, none⟩) (by simp) (.int .i64 s.pOn)).setLow (p := ⟨w.heap.size, 3, none⟩) (by simp) (.int .i64 s.pOff)).mono (L' := w.heap.size) (B' := w1.heap.size) (by simp) (Nat.le_refl _)
  have hlow := Below.puts4 (N0.trans (hD.below.mono N0.size)) (b := w.heap.size) (Nat.le_refl _) (.int .i64 s.pShort) (.int .i64 s.pLong) (.int .i64 s.pOn) (.int .i64 s.pOff)
  go_wp2
  refine bodyPost_ret (v := .tuple #[.slice a1 xs.length c1, .agg #[.int .i64 s.pShort, .int .i64 s.pLong, .int .i64 s.pOn, .int .i64 s.pOff]]) (by simp [results, Try.results42, go_sem, x0, x1, x2, x3]) rfl ⟨_, xs, s, rfl, ⟨hown.mono (Nat.le_refl _) (by simp [World.setCell]), hD.len, hD.bd, hD.bs, hlow⟩⟩
set_option maxRecDepth 100000 in
set_option maxHeartbeats 2000000 in
theorem drawIo (w : World) (B : Nat) (v : Value) (h : CodeArg w B v) :
    Calls Try.prog 49 #[v] w fun e w' => ∃ (v' : Value) (xs : List Int) (s : GSetting) (p : Int), e = .returned (.tuple #[v', .agg #[.int .i64 s.pShort, .int .i64 s.pLong, .int .i64 s.pOn, .int .i64 s.pOff], .int .i64 p]) ∧ (-1 ≤ p ∧ p ≤ 300) ∧ DrTg w w' v' xs s := by
  have N0 := (Below.refl w.heap.size w).alloc (Nat.le_refl _) (.cells #[.int .i64 0, .int .i64 0, .int .i64 0, .int .i64 0] 28)
  have d0 := Bx.new w [.int .i64 0, .int .i64 0, .int .i64 0, .int .i64 0] 28
  have C := Lib.hid (drawRA _ B v (h.below (((Below.refl B w).alloc h.1 (.cells #[.int .i64 0, .int .i64 0, .int .i64 0, .int .i64 0] 28)))))
  obtain ⟨h0, ao, n, cap, rfl, h2, h3⟩ := h
  clear h3
  go_enter Try.func49, Try.ntmps49
  go_wp2_with fail
  refine C.out.mono ?_
  rintro e w1 ⟨v1, xs, s, p, rfl, hp, hD⟩
  obtain ⟨a1, c1, rfl⟩ := hD.own.form
  have d1 := d0.below hD.below
  have x0 := d1.2 0 _ rfl
  have x1 := d1.2 1 _ rfl
  have x2 := d1.2 2 _ rfl
  have x3 := d1.2 3 _ rfl
  have xf := d1.1.2
  have hown := ((((hD.own.setLow (p := ⟨w.heap.size, 0, none⟩) (by simp) (.int .i64 s.pShort)).setLow (p := ⟨w.heap.size, 1, none⟩) (by simp) (.int .i64 s.pLong)).setLow (p := ⟨w.heap.size, 2, none⟩) (by simp) (.int .i64 s.pOn)).setLow (p := ⟨w.heap.size, 3, none⟩) (by simp) (.int .i64 s.pOff)).mono (L' := w.heap.size) (B' := w1.heap.size) (by simp) (Nat.le_refl _)
  have hlow := Below.puts4 (N0.trans (hD.below.mono N0.size)) (b := w.heap.size) (Nat.le_refl _) (.int .i64 s.pShort) (.int .i64 s.pLong) (.int .i64 s.pOn) (.int .i64 s.pOff)
  go_wp2
  refine bodyPost_ret (v := .tuple #[.slice a1 xs.length c1, .agg #[.int .i64 s.pShort, .int .i64 s.pLong, .int .i64 s.pOn, .int .i64 s.pOff], .int .i64 p]) (by simp [results, Try.results49, go_sem, x0, x1, x2, x3]) rfl ⟨_, xs, s, _, rfl, hp, ⟨hown.mono (Nat.le_refl _) (by simp [World.setCell]), hD.len, hD.bd, hD.bs, hlow⟩⟩
end Go.Proofs.Ytklilfbokpljkab
