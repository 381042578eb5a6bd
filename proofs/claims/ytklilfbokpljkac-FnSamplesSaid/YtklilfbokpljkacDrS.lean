/- The specification's draws of samples. -/
import Derived.Test.YtklilfbokpljkacCurB
import Derived.Test.YtklilfbokpljkacBx
import Derived.Maps.AppendAt
namespace Go.Proofs.Ytklilfbokpljkac
open Go.ChangeShapes Go.WideShapes Go.ChangeAt Go.RowKit Go.ChangeMaps
set_option linter.unusedSimpArgs false
set_option linter.unusedVariables false

theorem grown_new {w0 w2 w3 : World} {b : Nat} {row : Option Nat} (h : w0.grownBy w2 (some b)) (h2 : w2.grownBy w3 row) (hr : ∀ g, row = some g → w0.heap.size ≤ g ∨ g = b) : w0.grownBy w3 (some b) :=
  ⟨h2.os.trans h.os, h2.tape.trans h.tape, h2.output.trans h.output, Nat.le_trans h.size h2.size, fun k hk hne => (h2.block k (Nat.lt_of_lt_of_le hk h.size) (by
    intro e
    rcases hr k e.symm with h9 | h9
    · omega
    · exact hne (by rw [h9]))).trans (h.block k hk hne)⟩

theorem ints_lit1 (w : World) (o : Obj) (b : Nat) (hb : b < w.heap.size) (T : TypeId) (cap : Nat) (xs : List Int) :
    OfInts ((w.alloc o).alloc (.cells (xs.map (Value.int .i64)).toArray T)) b (.slice (some ⟨w.heap.size + 1, 0, none⟩) xs.length cap) xs := by
  have h := ints_lit (w.alloc o) b (by simp; omega) T cap xs
  rwa [World.size_alloc] at h
theorem lit_cell0 {w : World} {o : Obj} {g i : Nat} {v : Value} (hlt : g < w.heap.size) (hc : w.cell? ⟨g, i, none⟩ = some v) : (w.drew.alloc o).cell? ⟨g, i, none⟩ = some v :=
  (World.cell?_of_block (w := w) (a := ⟨g, i, none⟩) (Below.heap_alloc w.drew o g hlt)).trans hc
theorem lit_cell {w w4 : World} {o : Obj} {b g i : Nat} {v : Value} (hg : (w.drew.alloc o).grownBy w4 (some b)) (hgb : g ≠ b) (hlt : g < w.heap.size) (hc : w.cell? ⟨g, i, none⟩ = some v) : w4.cell? ⟨g, i, none⟩ = some v :=
  (grown_cell hg hgb (by have := (grown_alloc w.drew o none).size; exact Nat.lt_of_lt_of_le hlt this)).trans (lit_cell0 hlt hc)
theorem lit_grown {w w4 : World} {o : Obj} {b : Nat} (hg : (w.drew.alloc o).grownBy w4 (some b)) : w.grownBy w4 (some b) :=
  let h := (grown_alloc w.drew o (some b)).trans hg
  ⟨h.os, h.tape, h.output, h.size, h.block⟩
theorem cur_sample (w : World) (B b k : Nat) (h : Cur w B b k) (hk : k ≤ 900000) :
    Calls Try.prog 130 #[.pointer (some ⟨b, 0, none⟩)] w fun e w' => ∃ x : Int, e = .returned (.int .i64 x) ∧ -100000 ≤ x ∧ x ≤ 100000 ∧ Cur w' B b (k + 2) ∧ w.grownBy w' (some b) := by
  go_enter Try.func130, Try.ntmps130
  go_wp2_with fail
  refine (cur_among _ B b k (h.alloc _) hk _ _ (ints_lit w b h.lt 3 14 [0, 0, 1, -1, 3, -4, 20, -35, 100, 120, -500, 3000, 99999, -100000]) (by simp) (by simp)).mono ?_
  rintro e w1 ⟨x, rfl, hx, hc1, hg1⟩
  have hx2 : -100000 ≤ x ∧ x ≤ 100000 := by
    revert x
    decide
  go_wp2
  go_ret
  exact ⟨x, rfl, hx2.1, hx2.2, hc1, (grown_alloc _ _ _).trans hg1⟩

theorem leastAny (x y : Int) (w : World) :
    Calls Try.prog 104 #[.int .i64 x, .int .i64 y] w fun e w' => e = .returned (.int .i64 (if x < y then x else y)) ∧ w = w' := by
  by_cases h : x < y
  · rw [if_pos h]
    go_enter Try.func104, Try.ntmps104
    go_wp2
    go_ret
    exact ⟨rfl, rfl⟩
  · rw [if_neg h]
    go_enter Try.func104, Try.ntmps104
    go_wp2
    go_ret
    exact ⟨rfl, rfl⟩
theorem leastB (x y z : Int) (w : World) (h : (if x < y then x else y) = z) :
    Calls Try.prog 104 #[.int .i64 x, .int .i64 y] w fun e w' => e = .returned (.int .i64 z) ∧ w = w' := h ▸ leastAny x y w

/-- What has been drawn of samples so far. -/
def Smp (w0 : World) (B b k : Nat) (wr : World) (v : Value) (xs : List Int) : Prop :=
  wr.ownsRow w0.heap.size 3 1 v xs.length (xs.map (Value.int .i64)) ∧ (∃ ao cap, v = .slice ao xs.length cap) ∧ (∀ x ∈ xs, -100000 - 5 * (xs.length : Int) ≤ x ∧ x ≤ 100001) ∧ Cur wr B b (k + 10 * xs.length) ∧ w0.grownBy wr (some b)
theorem Smp.snoc {w0 : World} {B b k k' : Nat} {wr w2 w3 : World} {v v' : Value} {xs : List Int} {x : Int} {o : Obj} (h : Smp w0 B b k wr v xs) (hb : b < w0.heap.size) (hg : wr.grownBy w2 (some b)) (hc : Cur w2 B b k') (hk : k' ≤ k + 10 * xs.length + 10)
    (hown : w3.ownsRow w0.heap.size 3 1 v' (xs.length + 1) (xs.map (Value.int .i64) ++ [.int .i64 x])) (hgrow : (w2.alloc o).grownBy w3 v.ownBlock) (h1 : -100000 - 5 * ((xs.length : Int) + 1) ≤ x) (h2 : x ≤ 100001) : Smp w0 B b k w3 v' (xs ++ [x]) := by
  obtain ⟨hrow, hf, hx, hcu, hgr⟩ := h
  have hlo : ∀ g, v.ownBlock = some g → w0.heap.size ≤ g := fun g e => (hrow.lt g e).1
  refine ⟨by simpa using hown, by simpa using row_form hown, ?_, ?_, ?_⟩
  · intro y hy
    rw [List.length_append, List.length_singleton]
    rcases List.mem_append.1 hy with hy | hy
    · have := hx y hy
      constructor
      · have := this.1; push_cast; omega
      · exact this.2
    · rw [List.mem_singleton.1 hy]
      exact ⟨by push_cast; omega, h2⟩
  · have := (hc.alloc o).keep hgrow (fun g e => Nat.lt_of_lt_of_le hb (hlo g e))
    exact this.mono (by rw [List.length_append, List.length_singleton]; omega)
  · exact grown_new (hgr.trans hg) ((grown_alloc w2 o _).trans hgrow) (fun g e => Or.inl (hlo g e))

theorem Smp.draw {w0 : World} {B b k k' k2 : Nat} {wr w2 : World} {v : Value} {xs : List Int} (h : Smp w0 B b k wr v xs) (hb : b < w0.heap.size) (hg : wr.grownBy w2 (some b)) (hc : Cur w2 B b k') (hk : k' ≤ k2 + 10 * xs.length) : Smp w0 B b k2 w2 v xs := by
  obtain ⟨hrow, hf, hx, hcu, hgr⟩ := h
  exact ⟨kept_row hrow hg hb, hf, hx, hc.mono hk, hgr.trans hg⟩

set_option maxRecDepth 100000 in
set_option maxHeartbeats 2000000 in
theorem cur_samples (w : World) (B b k : Nat) (h : Cur w B b k) (hk : k ≤ 800000) :
    Calls Try.prog 122 #[.pointer (some ⟨b, 0, none⟩)] w fun e w' => ∃ (v : Value) (xs : List Int), e = .returned v ∧ xs.length ≤ 40 ∧ Smp w B b (k + 20) w' v xs := by
  obtain ⟨ti, hi, hz0, hz1, hz2⟩ := info_parts infoInt
  have hbw := h.lt
  have hrow0 := World.ownsRow_made (base := w.heap.size) (e := 3) (size := 1) w #[] 0 (Nat.le_refl _) (by simp [maxLen]) rfl
  go_enter Try.func122, Try.ntmps122
  go_wp2_with fail
  refine (cur_pick _ B b k 12 (h.alloc _) (by omega) (by omega) (by omega)).mono ?_
  rintro e w1 ⟨r, rfl, hr0, hr1, hc1, hg1⟩
  obtain ⟨m0, rfl⟩ : ∃ m : Nat, r = m := ⟨r.toNat, by omega⟩
  have hS0 : Smp w B b (k + 2) w1 (.slice (some ⟨w.heap.size, 0, none⟩) 0 0) [] := ⟨kept_row hrow0 hg1 hbw, ⟨_, _, rfl⟩, by simp, hc1.mono (by simp), (grown_alloc w _ _).trans hg1⟩
  have HS0 := Lib.hid hS0
  clear hS0 hrow0 hg1 hc1
  go_wp2
  go_loopw [3, 4] (fun o n wr => ∃ (m : Nat) (xs : List Int), n = .int .i64 m ∧ xs.length + m ≤ 12 ∧ Smp w B b (k + 2) wr o xs) (fun _ n _ => (intOf n).toNat)
  case atStart => exact ⟨m0, [], rfl, by simp; omega, HS0.out⟩
  case round =>
    obtain ⟨m, xs, rfl, hlen, hS⟩ := hrel
    obtain ⟨hrow, ⟨ao, cap, rfl⟩, hxs, hcu, hgr⟩ := id hS
    have HS := Lib.hid hS
    have HXS := Lib.hid hxs
    have HCU := Lib.hid hcu
    have zr := hgr.size
    clear hS hxs hcu hrow hgr
    by_cases hm : 0 < m
    · have hm1 : (0 : Int) < (m : Int) := by omega
      have hm2 : (m : Int) ≤ 12 := by omega
      go_wp2_with fail
      refine (cur_sample _ B b _ HCU.out (by omega)).mono ?_
      rintro e w2 ⟨x, rfl, x1, x2, hc2, hg2⟩
      have HC2 := Lib.hid hc2
      have HG2 := Lib.hid hg2
      have z2 := hg2.size
      clear hc2 hg2
      by_cases hn : 0 < xs.length
      · have hn1 : decide ((0 : Int) < (xs.length : Int)) = true := decide_eq_true (by omega)
        have hn2 : (0 : Int) < (xs.length : Int) := by omega
        go_wp2_with fail
        refine (cur_one _ B b _ 2 HC2.out (by omega) (by omega) (by omega)).mono ?_
        rintro e w3 ⟨yes, rfl, hc3, hg3⟩
        have HG3 := Lib.hid (HG2.out.trans hg3)
        have HC3 := Lib.hid hc3
        have z3 := hg3.size
        clear hc3 hg3
        cases yes with
        | false =>
          go_wp2_with fail
          refine (leastB 100000 x x _ (by split <;> omega)).mono ?_
          rintro e w8 ⟨rfl, hw8⟩
          subst hw8
          go_wp2_with (at_builtin; refine wpList_append_own _ rfl _ _ 22 rfl w.heap.size 3 ti (.int .i64 0) 1 8 Try.underlying22 hi hz0 hz1 hz2 rfl (by decide) _ xs.length (xs.map (Value.int .i64)) rfl ((kept_row HS.out.1 HG3.out hbw).alloc _) ⟨w3.heap.size, 0, none⟩ 1 1 [.int .i64 x] rfl rfl (cell_one_new _ _ _) (by simp [Value.oneCell']) (by unfold maxLen; omega) (by omega) (Nat.le_trans (show w.heap.size ≤ w3.heap.size by omega) (grown_alloc w3 _ none).size) ?_; intro v9 w9 hown9 hgrow9 _)
          have hS9 := HS.out.snoc hbw HG3.out HC3.out (by omega) hown9 hgrow9 (by omega) (by omega)
          have HS9 := Lib.hid hS9
          obtain ⟨a9, c9, rfl⟩ := hS9.2.1
          clear hS9 hown9 hgrow9
          go_wp2
          go_roundw
          case rel => exact ⟨m - 1, xs ++ [x], by rw [show ((m : Int) - 1) = ((m - 1 : Nat) : Int) by omega], by rw [List.length_append, List.length_singleton]; omega, HS9.out⟩
          case measure => simp [intOf]; omega
        | true =>
          have hrow3 := kept_row HS.out.1 HG3.out hbw
          obtain ⟨g, capg, hg⟩ := Go.Joins.ownsRow_form hrow3 hn
          simp only [Value.slice.injEq] at hg
          obtain ⟨rfl, _, rfl⟩ := hg
          obtain ⟨y, hy⟩ := get_of_lt (l := xs) (k := xs.length - 1) (by omega)
          have hyb := HXS.out y (List.mem_of_getElem? hy)
          have hcell : w3.cell? ⟨g, xs.length - 1, none⟩ = some (.int .i64 y) := (hrow3.cellAt _ (by omega)).trans (by rw [List.getElem?_map, hy]; rfl)
          have hg9 := (hrow3.lt g rfl).2
          have hj0 : (0 : Int) ≤ (xs.length : Int) - 1 := by omega
          have hj1 : (xs.length : Int) - 1 < (xs.length : Int) := by omega
          have hyl := hyb.1
          have hyu := hyb.2
          clear hy hrow3 hyb
          have hj2 : (1 : Int) ≤ (xs.length : Int) := by omega
          have sj : ((xs.length : Int) - 1).toNat = xs.length - 1 := by omega
          have sw : IntKind.i64.wrap ((xs.length : Int) - 1) = (xs.length : Int) - 1 := IntWalk.i64_in _ (by omega)
          have hb3 : b < w3.heap.size := by omega
          have hgb : g ≠ b := by
            have := (HS.out.1.lt g rfl).1
            omega
          go_wp2
          go_region_held3 (fun w' => w'.cell? ⟨g, xs.length - 1, none⟩ = some (.int .i64 y))
            (first
              | exact hcell
              | exact lit_cell0 hg9 hcell
              | exact lit_cell hg4 hgb hg9 hcell)
            (first
              | (go_at_call 87; refine (cur_among (w3.drew.alloc (.cells #[.int .i64 0, .int .i64 1, .int .i64 (-1), .int .i64 2, .int .i64 (-5), .int .i64 70] 3)) B b _ (Cur.alloc (w := w3.drew) HC3.out _) (by omega) _ _ (ints_lit w3.drew b hb3 3 6 [0, 1, -1, 2, -5, 70]) (by simp) (by simp)).mono ?_; rintro e w4 ⟨a, rfl, ha, hc4, hg4⟩; have ha2 : -5 ≤ a ∧ a ≤ 70 := (by revert a; decide); have ha3 := ha2.1; have ha4 := ha2.2; have sa : IntKind.i64.wrap (y + a) = y + a := IntWalk.i64_in _ (by omega)))
          have hg4 : w3.grownBy w4 (some b) := lit_grown hg4
          have HG4 := Lib.hid (HG3.out.trans hg4)
          have HC4 := Lib.hid hc4
          have z4 : w3.heap.size ≤ w4.heap.size := hg4.size
          clear ha ha2 hc4 hg4 hcell sa sj sw
          obtain ⟨z, hz⟩ : ∃ z : Int, (if 100000 < y + a then 100000 else y + a) = z := ⟨_, rfl⟩
          have hz1' : -100000 - 5 * ((xs.length : Int) + 1) ≤ z := by rw [← hz]; split <;> omega
          have hz2' : z ≤ 100001 := by rw [← hz]; split <;> omega
          have HZ := Lib.hid hz
          clear hz
          go_wp2_with fail
          refine (leastB 100000 (y + a) z _ HZ.out).mono ?_
          rintro e w8 ⟨rfl, hw8⟩
          subst hw8
          go_wp2_with (at_builtin; refine wpList_append_own _ rfl _ _ 22 rfl w.heap.size 3 ti (.int .i64 0) 1 8 Try.underlying22 hi hz0 hz1 hz2 rfl (by decide) _ xs.length (xs.map (Value.int .i64)) rfl ((kept_row HS.out.1 HG4.out hbw).alloc _) ⟨w4.heap.size, 0, none⟩ 1 1 [.int .i64 z] rfl rfl (cell_one_new _ _ _) (by simp [Value.oneCell']) (by unfold maxLen; omega) (by omega) (Nat.le_trans (show w.heap.size ≤ w4.heap.size by omega) (grown_alloc w4 _ none).size) ?_; intro v9 w9 hown9 hgrow9 _)
          have hS9 := HS.out.snoc hbw HG4.out HC4.out (by omega) hown9 hgrow9 (by omega) (by omega)
          have HS9 := Lib.hid hS9
          obtain ⟨a9, c9, rfl⟩ := hS9.2.1
          clear hS9 hown9 hgrow9
          go_wp2
          go_roundw
          case rel => exact ⟨m - 1, xs ++ [z], by rw [show ((m : Int) - 1) = ((m - 1 : Nat) : Int) by omega], by rw [List.length_append, List.length_singleton]; omega, HS9.out⟩
          case measure => simp [intOf]; omega
      · have hn1 : decide ((0 : Int) < (xs.length : Int)) = false := decide_eq_false (by omega)
        go_wp2_with fail
        refine (leastB 100000 x x _ (by split <;> omega)).mono ?_
        rintro e w8 ⟨rfl, hw8⟩
        subst hw8
        go_wp2_with (at_builtin; refine wpList_append_own _ rfl _ _ 22 rfl w.heap.size 3 ti (.int .i64 0) 1 8 Try.underlying22 hi hz0 hz1 hz2 rfl (by decide) _ xs.length (xs.map (Value.int .i64)) rfl ((kept_row HS.out.1 HG2.out hbw).alloc _) ⟨w2.heap.size, 0, none⟩ 1 1 [.int .i64 x] rfl rfl (cell_one_new _ _ _) (by simp [Value.oneCell']) (by unfold maxLen; omega) (by omega) (Nat.le_trans (show w.heap.size ≤ w2.heap.size by omega) (grown_alloc w2 _ none).size) ?_; intro v9 w9 hown9 hgrow9 _)
        have hS9 := HS.out.snoc hbw HG2.out HC2.out (by omega) hown9 hgrow9 (by omega) (by omega)
        have HS9 := Lib.hid hS9
        obtain ⟨a9, c9, rfl⟩ := hS9.2.1
        clear hS9 hown9 hgrow9
        go_wp2
        go_roundw
        case rel => exact ⟨m - 1, xs ++ [x], by rw [show ((m : Int) - 1) = ((m - 1 : Nat) : Int) by omega], by rw [List.length_append, List.length_singleton]; omega, HS9.out⟩
        case measure => simp [intOf]; omega
    · have hm1 : ¬ (0 : Int) < (m : Int) := by omega
      have hx12 : xs.length ≤ 12 := by omega
      go_wp2_with fail
      refine (cur_pick _ B b _ 40 HCU.out (by omega) (by omega) (by omega)).mono ?_
      rintro e w2 ⟨q, rfl, hq0, hq1, hc2, hg2⟩
      have HS2 := Lib.hid (HS.out.draw (k2 := k + 4) hbw hg2 hc2 (by omega))
      have z2 := hg2.size
      clear hg2 hc2
      by_cases h0 : q = 0
      · subst h0
        go_wp2_with fail
        refine (cur_among _ B b _ (HS2.out.2.2.2.1.alloc _) (by omega) _ _ (ints_lit w2 b (Nat.lt_of_lt_of_le hbw (by omega)) 3 2 [100001, -100001]) (by simp) (by simp)).mono ?_
        rintro e w3 ⟨a, rfl, ha, hc3, hg3⟩
        have ha2 : -100001 ≤ a ∧ a ≤ 100001 := by
          revert a
          decide
        obtain ⟨ha3, ha4⟩ := ha2
        have HG3 := Lib.hid ((grown_alloc w2 (.cells #[.int .i64 100001, .int .i64 (-100001)] 3) _).trans hg3)
        have HC3 := Lib.hid hc3
        have z3 : w2.heap.size + 1 ≤ w3.heap.size := by have := hg3.size; simpa using this
        clear ha hc3 hg3
        go_wp2_with (at_builtin; refine wpList_append_own _ rfl _ _ 22 rfl w.heap.size 3 ti (.int .i64 0) 1 8 Try.underlying22 hi hz0 hz1 hz2 rfl (by decide) _ xs.length (xs.map (Value.int .i64)) rfl ((kept_row HS2.out.1 HG3.out hbw).alloc _) ⟨w3.heap.size, 0, none⟩ 1 1 [.int .i64 a] rfl rfl (cell_one_new _ _ _) (by simp [Value.oneCell']) (by unfold maxLen; omega) (by omega) (Nat.le_trans (show w.heap.size ≤ w3.heap.size by omega) (grown_alloc w3 _ none).size) ?_; intro v9 w9 hown9 hgrow9 _)
        go_ret
        exact ⟨v9, xs ++ [a], rfl, by simp; omega, (HS2.out.snoc hbw HG3.out HC3.out (by omega) hown9 hgrow9 (by omega) (by omega)).draw (k2 := k + 20) hbw (World.grownBy.refl _ _) (HS2.out.snoc hbw HG3.out HC3.out (by omega) hown9 hgrow9 (by omega) (by omega)).2.2.2.1 (by omega)⟩
      · have hq2 : (q == 0) = false := by simpa using h0
        by_cases h1 : q = 1
        · subst h1
          go_wp2
          go_loopw [3] (fun o wr => ∃ ys : List Int, ys.length ≤ 25 ∧ Smp w B b (k + 8) wr o ys) (fun o _ => match o with | .slice _ n _ => 26 - n | _ => 0)
          case atStart => exact ⟨xs, by omega, HS2.out.draw (k2 := k + 8) hbw (World.grownBy.refl _ _) HS2.out.2.2.2.1 (by omega)⟩
          case round =>
            obtain ⟨ys, hy, hS⟩ := hrel
            obtain ⟨hrow, ⟨ao, cap, rfl⟩, hxs, hcu, hgr⟩ := id hS
            have HS := Lib.hid hS
            have HCU := Lib.hid hcu
            have zr := hgr.size
            have hy2 : (ys.length : Int) ≤ 25 := by omega
            clear hS hxs hcu hrow hgr HS2 z2
            go_wp2_with fail
            refine (cur_pick _ B b _ 2 HCU.out (by omega) (by omega) (by omega)).mono ?_
            rintro e w4 ⟨p, rfl, hp0, hp1, hc4, hg4⟩
            have HC4 := Lib.hid hc4
            have HG4 := Lib.hid hg4
            have z4 := hg4.size
            clear hc4 hg4
            by_cases hl : (ys.length : Int) < 24 + p
            · obtain ⟨z, hz⟩ : ∃ z : Int, (ys.length : Int) % 5 = z := ⟨_, rfl⟩
              have hz1' : 0 ≤ z := by omega
              have hz2' : z ≤ 4 := by omega
              go_wp2_with (at_builtin; refine wpList_append_own _ rfl _ _ 22 rfl w.heap.size 3 ti (.int .i64 0) 1 8 Try.underlying22 hi hz0 hz1 hz2 rfl (by decide) _ ys.length (ys.map (Value.int .i64)) rfl ((kept_row HS.out.1 HG4.out hbw).alloc _) ⟨w4.heap.size, 0, none⟩ 1 1 [.int .i64 z] rfl rfl (cell_one_new _ _ _) (by simp [Value.oneCell']) (by unfold maxLen; omega) (by omega) (Nat.le_trans (show w.heap.size ≤ w4.heap.size by omega) (grown_alloc w4 _ none).size) ?_; intro v9 w9 hown9 hgrow9 _)
              have hS9 := HS.out.snoc hbw HG4.out HC4.out (by omega) hown9 hgrow9 (by omega) (by omega)
              have HS9 := Lib.hid hS9
              obtain ⟨a9, c9, rfl⟩ := hS9.2.1
              clear hS9 hown9 hgrow9
              go_wp2
              go_roundw
              case rel => exact ⟨_, by rw [List.length_append, List.length_singleton]; omega, HS9.out⟩
              case measure => simp; omega
            · go_wp2
              go_ret
              exact ⟨_, ys, rfl, by omega, HS.out.draw (k2 := k + 20) hbw HG4.out HC4.out (by omega)⟩
        · have hq3 : (q == 1) = false := by simpa using h1
          go_wp2
          go_ret
          exact ⟨_, xs, rfl, by omega, HS2.out.draw (k2 := k + 20) hbw (World.grownBy.refl _ _) HS2.out.2.2.2.1 (by omega)⟩
end Go.Proofs.Ytklilfbokpljkac
