/- The specification's draws for the law on magnitudes. -/
import Derived.Test.YtdiedfpfhbdamaaDoorAoA
import Derived.Test.YtdiedfpfhbdamaaDoorAoC
namespace Go.Proofs.YtdiedfpfhbdamaaDoor
open Go.ChangeShapes Go.WideShapes Go.ChangeAt Go.RowKit Go.ChangeMaps
set_option linter.unusedSimpArgs false
set_option linter.unusedVariables false
set_option linter.unusedSimpArgs false
set_option linter.unusedVariables false

/-- A table that a draw gives. -/
structure DrTb (w w' : World) (v : Value) (xs : List GTableRow) : Prop where
  tl : TableRowL w' w'.heap.size v xs
  tlen : xs.length ≤ 12
  tbd : ∀ s ∈ xs, BdT s
  below : Below w.heap.size w w'
theorem Tdl.drawn {w w' : World} {o : Obj} {B k : Nat} {v : Value} {xs : List GTableRow} (h : Tdl (w.alloc o) w' B w.heap.size k v xs) : DrTb w w' v xs :=
  ⟨h.own.lst, h.len, h.bd, grown_below h.gr⟩
theorem cur_new1T (w : World) (o : Obj) (B : Nat) (ao : Option Addr) (n cap : Nat) (hB : B ≤ w.heap.size) (hn : n ≤ 65536) (hc : Code w B ao n) :
    Cur ((w.alloc o).alloc (.cells #[.slice ao n cap, .int .i64 0, .int .u64 0] 46)) B (w.heap.size + 1) 0 := by
  have h := cur_new (w.alloc o) B ao n cap (by simp; omega) hn (hc.keep fun bb o' hbb => ((Below.refl B w).alloc hB o).cell (p := ⟨bb, o', none⟩) hbb)
  rwa [World.size_alloc] at h
theorem grown_twoT {w w' : World} {o p : Obj} (h : ((w.alloc o).alloc p).grownBy w' (some (w.heap.size + 1))) : Below w.heap.size w w' := by
  have h1 := ((Below.refl w.heap.size w).alloc (Nat.le_refl _) o).alloc (by simp) p
  exact h1.grown h (by simp; omega) (fun g e => by cases e; omega)
theorem below_put4W {B : Nat} {a w : World} (h : Below B a w) {b : Nat} (hb : B ≤ b) (y0 y1 y2 y3 : Value) : Below B a ((((w.setCell ⟨b, 0, none⟩ y0).setCell ⟨b, 1, none⟩ y1).setCell ⟨b, 2, none⟩ y2).setCell ⟨b, 3, none⟩ y3) :=
  (((h.setCell (p := ⟨b, 0, none⟩) hb y0).setCell (p := ⟨b, 1, none⟩) hb y1).setCell (p := ⟨b, 2, none⟩) hb y2).setCell (p := ⟨b, 3, none⟩) hb y3
theorem Bx.put4W {w : World} {b : Nat} {x0 x1 x2 x3 : Value} (h : Bx w b [x0, x1, x2, x3]) (y0 y1 y2 y3 : Value) :
    Bx ((((w.setCell ⟨b, 0, none⟩ y0).setCell ⟨b, 1, none⟩ y1).setCell ⟨b, 2, none⟩ y2).setCell ⟨b, 3, none⟩ y3) b [y0, y1, y2, y3] :=
  (((h.set 0 (by simp) y0).set 1 (by simp) y1).set 2 (by simp) y2).set 3 (by simp) y3
theorem tb_put4 {w : World} {B b : Nat} {v : Value} {xs : List GTableRow} (h : TableRowO w B w.heap.size v xs) (hb : b < B) (y0 y1 y2 y3 : Value) :
    TableRowL ((((w.setCell ⟨b, 0, none⟩ y0).setCell ⟨b, 1, none⟩ y1).setCell ⟨b, 2, none⟩ y2).setCell ⟨b, 3, none⟩ y3) ((((w.setCell ⟨b, 0, none⟩ y0).setCell ⟨b, 1, none⟩ y1).setCell ⟨b, 2, none⟩ y2).setCell ⟨b, 3, none⟩ y3).heap.size v xs :=
  ((((h.setLow (p := ⟨b, 0, none⟩) hb y0).setLow (p := ⟨b, 1, none⟩) hb y1).setLow (p := ⟨b, 2, none⟩) hb y2).setLow (p := ⟨b, 3, none⟩) hb y3).lst.mono (by simp [World.setCell])
set_option maxRecDepth 100000 in
set_option maxHeartbeats 2000000 in
theorem drawLW (w : World) (B : Nat) (v : Value) (h : CodeArg w B v) :
    Calls Tryd.prog 6 #[v] w fun e w' => ∃ (v1 : Value) (xs : List GTableRow) (x y : Int), e = .returned (.tuple #[v1, .int .i64 x, .int .i64 y]) ∧ (-1 ≤ x ∧ x ≤ 1501) ∧ (-1001 ≤ y ∧ y ≤ 2001) ∧ DrTb w w' v1 xs := by
  obtain ⟨h0, ao, n, cap, rfl, h2, h3⟩ := h
  have hcu := cur_new w B ao n cap h0 h2 h3
  have hbw : w.heap.size < (w.alloc (.cells #[.slice ao n cap, .int .i64 0, .int .u64 0] 46)).heap.size := by simp
  clear h3
  go_enter Tryd.func6, Tryd.ntmps6
  go_wp2_with fail
  refine (cur_table _ B w.heap.size 0 hcu (by omega)).mono ?_
  rintro e w1 ⟨v1, xs, rfl, hS⟩
  obtain ⟨g1, cap1, rfl⟩ := hS.form
  have HS1 := Lib.hid hS
  clear hS hcu
  have y2 := HS1.out.cur.lt
  go_wp2_with fail
  refine (cur_pick _ B w.heap.size _ 24 (HS1.out.cur.alloc _) (by omega) (by omega) (by omega)).mono ?_
  rintro e w2 ⟨r2, rfl, hr0, hr1, hc, hg⟩
  have hl2 := (ints_lit w1 w.heap.size y2 3 7 [0, 5, 12, 60, 1500, -1, 1501]).grown hg
  have HSa2 := Lib.hid ((HS1.out.alloc _).draw hbw hg hc)
  obtain ⟨q2, hq, hq2⟩ : ∃ q : Nat, r2.tdiv 11 = q ∧ q ≤ 2 := ⟨(r2 / 11).toNat, by rw [Int.tdiv_eq_ediv_of_nonneg hr0]; omega, by omega⟩
  clear HS1 hc hg
  go_wp2_with fail
  refine (cur_among _ B w.heap.size _ HSa2.out.cur (by omega) _ _ (hl2.take (5 + q2) (by simp; omega)) (by simp; omega) (by simp; omega)).mono ?_
  rintro e w3 ⟨x, rfl, hx9, hc, hg⟩
  have hbx : -1 ≤ x ∧ x ≤ 1501 := mem_take_all (P := fun x => -1 ≤ x ∧ x ≤ 1501) (by decide) hx9
  have HS3 := Lib.hid (HSa2.out.draw hbw hg hc)
  clear HSa2 hc hg hq hx9 hl2 hr0 hr1 hq2
  have y4 := HS3.out.cur.lt
  go_wp2_with fail
  refine (cur_pick _ B w.heap.size _ 24 (HS3.out.cur.alloc _) (by omega) (by omega) (by omega)).mono ?_
  rintro e w4 ⟨r4, rfl, hr0, hr1, hc, hg⟩
  have hl4 := (ints_lit w3 w.heap.size y4 3 8 [-1000, 0, 99, 250, 600, 2000, -1001, 2001]).grown hg
  have HSa4 := Lib.hid ((HS3.out.alloc _).draw hbw hg hc)
  obtain ⟨q4, hq, hq2⟩ : ∃ q : Nat, r4.tdiv 11 = q ∧ q ≤ 2 := ⟨(r4 / 11).toNat, by rw [Int.tdiv_eq_ediv_of_nonneg hr0]; omega, by omega⟩
  clear HS3 hc hg
  go_wp2_with fail
  refine (cur_among _ B w.heap.size _ HSa4.out.cur (by omega) _ _ (hl4.take (6 + q4) (by simp; omega)) (by simp; omega) (by simp; omega)).mono ?_
  rintro e w5 ⟨y, rfl, hx9, hc, hg⟩
  have hby : -1001 ≤ y ∧ y ≤ 2001 := mem_take_all (P := fun x => -1001 ≤ x ∧ x ≤ 2001) (by decide) hx9
  have HS5 := Lib.hid (HSa4.out.draw hbw hg hc)
  clear HSa4 hc hg hq hx9 hl4 hr0 hr1 hq2
  go_wp2
  go_ret3
  exact ⟨_, xs, x, y, rfl, hbx, hby, HS5.out.drawn⟩
set_option maxRecDepth 100000 in
set_option maxHeartbeats 2000000 in
theorem drawBA (w : World) (B : Nat) (v : Value) (h : CodeArg w B v) :
    Calls Tryd.prog 13 #[v] w fun e w' => ∃ (v1 : Value) (xs : List GTableRow) (x : Int), e = .returned (.tuple #[v1, .int .i64 x]) ∧ (-1 ≤ x ∧ x ≤ 1501) ∧ DrTb w w' v1 xs := by
  obtain ⟨h0, ao, n, cap, rfl, h2, h3⟩ := h
  have hcu := cur_new w B ao n cap h0 h2 h3
  have hbw : w.heap.size < (w.alloc (.cells #[.slice ao n cap, .int .i64 0, .int .u64 0] 46)).heap.size := by simp
  clear h3
  go_enter Tryd.func13, Tryd.ntmps13
  go_wp2_with fail
  refine (cur_table _ B w.heap.size 0 hcu (by omega)).mono ?_
  rintro e w1 ⟨v1, xs, rfl, hS⟩
  obtain ⟨g1, cap1, rfl⟩ := hS.form
  have HS1 := Lib.hid hS
  clear hS hcu
  have y2 := HS1.out.cur.lt
  go_wp2_with fail
  refine (cur_pick _ B w.heap.size _ 24 (HS1.out.cur.alloc _) (by omega) (by omega) (by omega)).mono ?_
  rintro e w2 ⟨r2, rfl, hr0, hr1, hc, hg⟩
  have hl2 := (ints_lit w1 w.heap.size y2 3 9 [0, 5, 10, 12, 60, 200, 1500, -1, 1501]).grown hg
  have HSa2 := Lib.hid ((HS1.out.alloc _).draw hbw hg hc)
  obtain ⟨q2, hq, hq2⟩ : ∃ q : Nat, r2.tdiv 11 = q ∧ q ≤ 2 := ⟨(r2 / 11).toNat, by rw [Int.tdiv_eq_ediv_of_nonneg hr0]; omega, by omega⟩
  clear HS1 hc hg
  go_wp2_with fail
  refine (cur_among _ B w.heap.size _ HSa2.out.cur (by omega) _ _ (hl2.take (7 + q2) (by simp; omega)) (by simp; omega) (by simp; omega)).mono ?_
  rintro e w3 ⟨x, rfl, hx9, hc, hg⟩
  have hbx : -1 ≤ x ∧ x ≤ 1501 := mem_take_all (P := fun x => -1 ≤ x ∧ x ≤ 1501) (by decide) hx9
  have HS3 := Lib.hid (HSa2.out.draw hbw hg hc)
  clear HSa2 hc hg hq hx9 hl2 hr0 hr1 hq2
  go_wp2
  go_ret2
  exact ⟨_, xs, x, rfl, hbx, HS3.out.drawn⟩
set_option maxRecDepth 100000 in
set_option maxHeartbeats 2000000 in
theorem drawSO (w : World) (B : Nat) (v : Value) (h : CodeArg w B v) :
    Calls Tryd.prog 10 #[v] w fun e w' => ∃ x : Int, e = .returned (.int .i64 x) ∧ (0 ≤ x ∧ x ≤ 1000001) ∧ Below w.heap.size w w' := by
  obtain ⟨h0, ao, n, cap, rfl, h2, h3⟩ := h
  have hcu := cur_new w B ao n cap h0 h2 h3
  have hbw : w.heap.size < (w.alloc (.cells #[.slice ao n cap, .int .i64 0, .int .u64 0] 46)).heap.size := by simp
  clear h3
  go_enter Tryd.func10, Tryd.ntmps10
  go_wp2_with fail
  refine (cur_among _ B w.heap.size _ (hcu.alloc _) (by omega) _ _ (by simpa using ints_lit (w.alloc (.cells #[.slice ao n cap, .int .i64 0, .int .u64 0] 46)) w.heap.size hbw 3 10 [1, 2, 9, 10, 99, 100, 2500, 1000000, 0, 1000001]) (by simp) (by simp)).mono ?_
  rintro e w1 ⟨x, rfl, hx, hc, hg⟩
  have hbx : 0 ≤ x ∧ x ≤ 1000001 := by
    revert x
    decide
  go_wp2
  go_ret
  exact ⟨x, rfl, hbx, grown_below ((grown_alloc (w.alloc (.cells #[.slice ao n cap, .int .i64 0, .int .u64 0] 46)) _ _).trans hg)⟩
set_option maxRecDepth 100000 in
set_option maxHeartbeats 2000000 in
theorem drawMT (w : World) (B : Nat) (v : Value) (h : CodeArg w B v) :
    Calls Tryd.prog 18 #[v] w fun e w' => ∃ x : Int, e = .returned (.int .i64 x) ∧ (-1001 ≤ x ∧ x ≤ 2001) ∧ Below w.heap.size w w' := by
  obtain ⟨h0, ao, n, cap, rfl, h2, h3⟩ := h
  have hcu := cur_new w B ao n cap h0 h2 h3
  have hbw : w.heap.size < (w.alloc (.cells #[.slice ao n cap, .int .i64 0, .int .u64 0] 46)).heap.size := by simp
  clear h3
  go_enter Tryd.func18, Tryd.ntmps18
  go_wp2_with fail
  refine (cur_pick _ B w.heap.size _ 24 (hcu.alloc _) (by omega) (by omega) (by omega)).mono ?_
  rintro e w1 ⟨r1, rfl, hr0, hr1, hc, hg⟩
  have hl1 : OfInts _ w.heap.size (.slice (some ⟨w.heap.size + 1, 0, none⟩) 11 11) [0, 4, 5, -4, -5, 123, 125, -1000, 2000, -1001, 2001] := OfInts.grown (by simpa using ints_lit (w.alloc (.cells #[.slice ao n cap, .int .i64 0, .int .u64 0] 46)) w.heap.size hbw 3 11 [0, 4, 5, -4, -5, 123, 125, -1000, 2000, -1001, 2001]) hg
  have GG := (grown_alloc (w.alloc (.cells #[.slice ao n cap, .int .i64 0, .int .u64 0] 46)) _ (some w.heap.size)).trans hg
  obtain ⟨q1, hq, hq2⟩ : ∃ q : Nat, r1.tdiv 11 = q ∧ q ≤ 2 := ⟨(r1 / 11).toNat, by rw [Int.tdiv_eq_ediv_of_nonneg hr0]; omega, by omega⟩
  clear hg hcu
  go_wp2_with fail
  refine (cur_among _ B w.heap.size _ hc (by omega) _ _ (hl1.take (9 + q1) (by simp; omega)) (by simp; omega) (by simp; omega)).mono ?_
  rintro e w2 ⟨x, rfl, hx9, hc2, hg2⟩
  have hbx : -1001 ≤ x ∧ x ≤ 2001 := mem_take_all (P := fun x => -1001 ≤ x ∧ x ≤ 2001) (by decide) hx9
  clear hq hx9 hl1 hr0 hr1 hq2
  go_wp2
  go_ret
  exact ⟨x, rfl, hbx, grown_below (GG.trans hg2)⟩
set_option maxRecDepth 100000 in
set_option maxHeartbeats 2000000 in
theorem drawMO (w : World) (B : Nat) (v : Value) (h : CodeArg w B v) :
    Calls Tryd.prog 16 #[v] w fun e w' => ∃ (v1 : Value) (xs : List GTableRow) (s : GSwing), e = .returned (.tuple #[v1, .agg #[.int .i64 s.pStation, .int .i64 s.pFar, .int .i64 s.pWidth, .int .i64 s.pTerm]]) ∧ BdW s ∧ DrTb w w' v1 xs := by
  obtain ⟨h0, ao, n, cap, rfl, h2, h3⟩ := h
  have hcu := cur_new1T w (.cells #[.int .i64 0, .int .i64 0, .int .i64 0, .int .i64 0] 31) B ao n cap h0 h2 h3
  have hbw : w.heap.size + 1 < ((w.alloc (.cells #[.int .i64 0, .int .i64 0, .int .i64 0, .int .i64 0] 31)).alloc (.cells #[.slice ao n cap, .int .i64 0, .int .u64 0] 46)).heap.size := by simp
  have d0 := (Bx.new w [.int .i64 0, .int .i64 0, .int .i64 0, .int .i64 0] 31).alloc (.cells #[.slice ao n cap, .int .i64 0, .int .u64 0] 46)
  clear h3
  go_enter Tryd.func16, Tryd.ntmps16
  go_wp2_with fail
  refine (cur_table _ B (w.heap.size + 1) 0 hcu (by omega)).mono ?_
  rintro e w1 ⟨v1, xs, rfl, hS⟩
  obtain ⟨g1, cap1, rfl⟩ := hS.form
  have HS1 := Lib.hid hS
  have d1 := d0.grown hS.gr (by intro e; have := Option.some.inj e; omega)
  clear hS hcu d0
  go_wp2_with fail
  refine (cur_swing _ B (w.heap.size + 1) _ 5 (by omega) HS1.out.cur (by omega)).mono ?_
  rintro e w2 ⟨s, rfl, hbs, hc, hg⟩
  have HS2 := Lib.hid (HS1.out.draw hbw hg hc)
  have d2 := d1.grown hg (by intro e; have := Option.some.inj e; omega)
  clear HS1 hc hg d1
  have c0 := d2.2 0 _ rfl
  have c1 := d2.2 1 _ rfl
  have c2 := d2.2 2 _ rfl
  have c3 := d2.2 3 _ rfl
  have cf := d2.1.2
  have dz := d2.put4W (.int .i64 s.pStation) (.int .i64 s.pFar) (.int .i64 s.pWidth) (.int .i64 s.pTerm)
  have ht := tb_put4 (b := w.heap.size) HS2.out.own (by simp; omega) (.int .i64 s.pStation) (.int .i64 s.pFar) (.int .i64 s.pWidth) (.int .i64 s.pTerm)
  have hb := below_put4W (grown_twoT HS2.out.gr) (Nat.le_refl _) (.int .i64 s.pStation) (.int .i64 s.pFar) (.int .i64 s.pWidth) (.int .i64 s.pTerm)
  have hln := HS2.out.len
  have hbd := HS2.out.bd
  clear HS2
  go_wp2
  have y0 := dz.2 0 _ rfl
  have y1 := dz.2 1 _ rfl
  have y2 := dz.2 2 _ rfl
  have y3 := dz.2 3 _ rfl
  refine bodyPost_ret (by simp [results, Tryd.results16, go_sem, y0, y1, y2, y3]) rfl ⟨_, xs, s, rfl, hbs, ht, hln, hbd, hb⟩
end Go.Proofs.YtdiedfpfhbdamaaDoor
