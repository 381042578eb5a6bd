/- Packing: the specification's draws of bytes. -/
import Derived.Test.YtkgohnlljbamlaaPkD
namespace Go.Proofs.Ytkgohnlljbamlaa
open Go.ChangeShapes Go.WideShapes Go.ChangeAt Go.RowKit Go.ChangeMaps
set_option linter.unusedSimpArgs false
set_option linter.unusedVariables false

/-- What has been drawn of bytes so far. -/
def Bs (w0 : World) (B b k : Nat) (wr : World) (v : Value) (xs : List Int) : Prop :=
  wr.ownsRow w0.heap.size 3 1 v xs.length (xs.map (Value.int .i64)) ∧ Cur wr B b k ∧ w0.grownBy wr (some b)
theorem Bs.draw {w0 wr w2 : World} {B b k k' : Nat} {v : Value} {xs : List Int} (h : Bs w0 B b k wr v xs) (hb : b < w0.heap.size) (hg : wr.grownBy w2 (some b)) (hc : Cur w2 B b k') : Bs w0 B b k' w2 v xs :=
  ⟨kept_row h.1 hg hb, hc, h.2.2.trans hg⟩
theorem Bs.mono {w0 wr : World} {B b k k' : Nat} {v : Value} {xs : List Int} (h : Bs w0 B b k wr v xs) (hk : k ≤ k') : Bs w0 B b k' wr v xs := ⟨h.1, h.2.1.mono hk, h.2.2⟩
theorem Bs.snoc {w0 wr w3 : World} {B b k : Nat} {v v' : Value} {xs : List Int} {x : Int} {o : Obj} (h : Bs w0 B b k wr v xs) (hb : b < w0.heap.size)
    (hown : w3.ownsRow w0.heap.size 3 1 v' (xs.length + 1) (xs.map (Value.int .i64) ++ [.int .i64 x])) (hgrow : (wr.alloc o).grownBy w3 v.ownBlock) : Bs w0 B b k w3 v' (xs ++ [x]) := by
  obtain ⟨hrow, hcu, hgr⟩ := h
  have hlo : ∀ g, v.ownBlock = some g → w0.heap.size ≤ g := fun g e => (hrow.lt g e).1
  exact ⟨by simpa using hown, (hcu.alloc o).keep hgrow (fun g e => Nat.lt_of_lt_of_le hb (hlo g e)), grown_new hgr ((grown_alloc wr o _).trans hgrow) (fun g e => Or.inl (hlo g e))⟩
theorem row_take {w : World} {base g n m cap : Nat} {e : TypeId} {xs : List Value} (h : w.ownsRow base e 1 (.slice (some ⟨g, 0, none⟩) n cap) n xs) (hm : m ≤ n) : w.ownsRow base e 1 (.slice (some ⟨g, 0, none⟩) m cap) m (xs.take m) := by
  obtain ⟨hl, h⟩ := h
  refine ⟨by simp at hl ⊢; omega, ?_⟩
  rcases h with ⟨h', _⟩ | ⟨g', cap', cur, h', hb, hg, hnc, hcm, hcs, htake⟩
  · simp at h'
  · simp only [Value.slice.injEq, Option.some.injEq, Addr.mk.injEq, and_true, true_and] at h'
    obtain ⟨rfl, rfl⟩ := h'
    refine .inr ⟨g, cap, cur, rfl, hb, hg, by omega, hcm, hcs, ?_⟩
    rw [← htake, List.take_take]
    congr 1
    omega
theorem Bs.pos {w0 wr : World} {B b k : Nat} {v : Value} {xs : List Int} (h : Bs w0 B b k wr v xs) (hx : 0 < xs.length) : ∃ g cap, v = .slice (some ⟨g, 0, none⟩) xs.length cap ∧ xs.length ≤ cap ∧ cap ≤ maxLen ∧ w0.heap.size ≤ g := by
  rcases h.1.2 with ⟨_, h0⟩ | ⟨g, cap, cur, h', hb, hg, hnc, hcm, hcs, htake⟩
  · omega
  · exact ⟨g, cap, h', hnc, hcm, hb⟩
theorem Bs.take {w0 wr : World} {B b k g cap m n : Nat} {xs : List Int} (h : Bs w0 B b k wr (.slice (some ⟨g, 0, none⟩) n cap) xs) (hn : n = xs.length) (hm : m ≤ xs.length) : Bs w0 B b k wr (.slice (some ⟨g, 0, none⟩) m cap) (xs.take m) := by
  subst hn
  have hl : (xs.take m).length = m := by rw [List.length_take]; omega
  exact ⟨by rw [hl, List.map_take]; exact row_take h.1 hm, h.2⟩
theorem only_set' {a w : World} {b g i : Nat} (h : a.grownBy w (some b)) (hp : a.heap.size ≤ g) (u : Value) : a.grownBy (w.setCell ⟨g, i, none⟩ u) (some b) :=
  ⟨h.os, h.tape, h.output, by simpa [World.setCell] using h.size, fun j hj hne => (Below.heap_setCell w _ u j (by show j ≠ g; omega)).trans (h.block j hj hne)⟩
theorem Cur.set {w : World} {B b k : Nat} (h : Cur w B b k) {p : Addr} (hp : b < p.block) (u : Value) : Cur (w.setCell p u) B b k :=
  h.keep (row := some p.block) ⟨rfl, rfl, rfl, by simp [World.setCell], fun i hi hne => Below.heap_setCell w p u i (fun e => hne (by rw [e]))⟩ (fun g e => by cases e; exact hp)
theorem Bs.set {w0 wr : World} {B b k g cap i n : Nat} {xs : List Int} (h : Bs w0 B b k wr (.slice (some ⟨g, 0, none⟩) n cap) xs) (hn : n = xs.length) (hb : b < w0.heap.size) (hg : w0.heap.size ≤ g) (x : Int) : Bs w0 B b k (wr.setCell ⟨g, i, none⟩ (.int .i64 x)) (.slice (some ⟨g, 0, none⟩) n cap) (xs.set i x) := by
  subst hn
  refine ⟨?_, h.2.1.set (by simp; omega) _, only_set' h.2.2 hg _⟩
  rw [List.length_set, List.map_set]
  exact (h.1.stored i _).1

theorem okL_lit : okL [5, 4000, -90000] = true := by decide
set_option maxRecDepth 100000 in
set_option maxHeartbeats 4000000 in
theorem cur_bytes (w : World) (B b k : Nat) (h : Cur w B b k) (hk : k ≤ 700000) :
    Calls Try.prog 71 #[.pointer (some ⟨b, 0, none⟩)] w fun e w' => ∃ (v : Value) (zs : List Int), e = .returned v ∧ zs.length ≤ 200 ∧ Own (Value.int .i64) w' w.heap.size w'.heap.size v zs ∧ Cur w' B b (k + 3000) ∧ w.grownBy w' (some b) := by
  obtain ⟨ti, hi, hz0, hz1, hz2⟩ := info_parts infoInt
  have hbw := h.lt
  go_enter Try.func71, Try.ntmps71
  go_wp2_with fail
  refine (cur_samples _ B b k h (by omega)).mono ?_
  rintro e w1 ⟨v1, xs, rfl, hl, hS⟩
  have HS := Lib.hid hS
  have z1 := hS.2.2.2.2.size
  clear hS
  cases hk2 : okL xs with
  | false =>
    have C1 := Lib.hid (l2SamplesB xs v1 w1 w1.heap.size false (Own.of_row HS.out.1).lst hk2)
    go_wp2_with fail
    refine C1.out.mono ?_
    rintro e w1' ⟨rfl, hw⟩
    obtain rfl := hw.symm
    have D1 := Lib.hid (specPk [5, 4000, -90000] _ (w1.alloc (.cells ([5, 4000, -90000].map (Value.int .i64)).toArray 3)) (w1.heap.size + 1) ((Own.of_row (row_lit w1 3 [5, 4000, -90000] (by simp))).lst.mono (by simp)) (by simp) okL_lit)
    go_wp2_with fail
    refine D1.out.mono ?_
    rintro e w2 ⟨v2, rfl, hrow, hb2⟩
    have hzl := pk_len [5, 4000, -90000]
    have SQ : Bs w B b (k + 420) w2 v2 (pk [5, 4000, -90000]) := ⟨Go.Joins.ownsRow_le hrow (by simp; omega), ((HS.out.2.2.2.1.alloc _).keep (World.Below_grown hb2) (by simp)).mono (by omega), grown_new HS.out.2.2.2.2 ((grown_alloc w1 _ none).trans (World.Below_grown hb2)) (by simp)⟩
    have hzz : (pk [5, 4000, -90000]).length ≤ 72 := by simp at hzl; omega
    have S2 := Lib.hid SQ
    clear hrow hb2 hzl SQ D1 C1 HS
    generalize pk [5, 4000, -90000] = zs at *
    go_wp2_with fail
    refine (cur_pick _ B b _ 8 S2.out.2.1 (by omega) (by omega) (by omega)).mono ?_
    rintro e w3 ⟨r, rfl, hr0, hr1, hc3, hg3⟩
    have S3 := Lib.hid (S2.out.draw hbw hg3 hc3)
    clear hc3 hg3 S2
    by_cases h0 : r = 0
    · subst h0
      by_cases hx : 0 < zs.length
      · obtain ⟨g, cap, rfl, hgc, hcm, hgb⟩ := S3.out.pos hx
        unfold maxLen at hcm
        have hxi : (0 : Int) < (zs.length : Int) := by omega
        go_wp2_with fail
        refine (cur_pick _ B b _ (zs.length : Int) S3.out.2.1 (by omega) (by omega) (by omega)).mono ?_
        rintro e w5 ⟨i, rfl, hi0, hi1, hc5, hg5⟩
        obtain ⟨j, rfl⟩ : ∃ j : Nat, i = j := ⟨i.toNat, by omega⟩
        have hji : (j : Int) ≤ (cap : Int) := by omega
        have S5 := Lib.hid ((S3.out.draw hbw hg5 hc5).take rfl (m := j) (by omega))
        have hll : (zs.take j).length ≤ 73 := by rw [List.length_take]; omega
        clear hc5 hg5 S3
        generalize zs.take j = ts at *
        go_wp2_with fail
        refine (cur_one _ B b _ 40 S5.out.2.1 (by omega) (by omega) (by omega)).mono ?_
        rintro e wt ⟨yes, rfl, hct, hgt⟩
        have ST := Lib.hid (S5.out.draw hbw hgt hct)
        clear hct hgt S5
        cases yes with
        | false =>
          go_wp2
          go_ret
          exact ⟨_, ts, rfl, by omega, (Own.of_row ST.out.1).mono (Nat.le_refl _) (Nat.le_refl _), ST.out.2.1.mono (by omega), ST.out.2.2⟩
        | true =>
          go_wp2
          go_loopw [4] (fun o wr => ∃ (q : Nat) (ys : List Int), ys.length ≤ 101 ∧ q ≤ k + 500 + 10 * ys.length ∧ Bs w B b q wr o ys) (fun o _ => match o with | .slice _ n _ => 102 - n | _ => 0)
          case atStart => exact ⟨_, ts, by omega, by omega, ST.out⟩
          case round =>
            obtain ⟨q, ys, hy, hq, hS9⟩ := hrel
            obtain ⟨ao, cap, rfl⟩ := row_form hS9.1
            have HS9 := Lib.hid hS9
            have hy2 : (ys.length : Int) ≤ 101 := by omega
            clear hS9 ST
            go_wp2_with fail
            refine (cur_pick _ B b _ 2 HS9.out.2.1 (by omega) (by omega) (by omega)).mono ?_
            rintro e w4 ⟨p, rfl, hp0, hp1, hc4, hg4⟩
            have S4 := Lib.hid (HS9.out.draw hbw hg4 hc4)
            clear hc4 hg4 HS9
            by_cases hl9 : (ys.length : Int) < 100 + p
            · go_wp2_with (at_builtin; refine wpList_append_own _ rfl _ _ 22 rfl w.heap.size 3 ti (.int .i64 0) 1 8 Try.underlying22 hi hz0 hz1 hz2 rfl (by decide) _ ys.length (ys.map (Value.int .i64)) rfl (S4.out.1.alloc _) ⟨w4.heap.size, 0, none⟩ 1 1 [.int .i64 0] rfl rfl (cell_one_new _ _ _) (by simp [Value.oneCell']) (by unfold maxLen; omega) (by omega) (by have := S4.out.2.2.size; simp; omega) ?_; intro v9 w9 hown9 hgrow9 _)
              have S5 := Lib.hid (S4.out.snoc hbw hown9 hgrow9)
              obtain ⟨a9, c9, rfl⟩ := row_form hown9
              clear hown9 hgrow9 S4
              go_wp2
              go_roundw
              case rel => exact ⟨_, ys ++ [0], by rw [List.length_append, List.length_singleton]; omega, by rw [List.length_append, List.length_singleton]; omega, S5.out⟩
              case measure => simp; omega
            · go_wp2
              go_ret
              exact ⟨_, ys, rfl, by omega, Own.of_row S4.out.1, S4.out.2.1.mono (by omega), S4.out.2.2⟩
      · have hxi : ¬ (0 : Int) < (zs.length : Int) := by omega
        obtain ⟨ao3, cap3, rfl⟩ := row_form S3.out.1
        go_wp2_with fail
        refine (cur_one _ B b _ 40 S3.out.2.1 (by omega) (by omega) (by omega)).mono ?_
        rintro e wt ⟨yes, rfl, hct, hgt⟩
        have ST := Lib.hid (S3.out.draw hbw hgt hct)
        clear hct hgt S3
        cases yes with
        | false =>
          go_wp2
          go_ret
          exact ⟨_, zs, rfl, by omega, (Own.of_row ST.out.1).mono (Nat.le_refl _) (Nat.le_refl _), ST.out.2.1.mono (by omega), ST.out.2.2⟩
        | true =>
          go_wp2
          go_loopw [4] (fun o wr => ∃ (q : Nat) (ys : List Int), ys.length ≤ 101 ∧ q ≤ k + 500 + 10 * ys.length ∧ Bs w B b q wr o ys) (fun o _ => match o with | .slice _ n _ => 102 - n | _ => 0)
          case atStart => exact ⟨_, zs, by omega, by omega, ST.out⟩
          case round =>
            obtain ⟨q, ys, hy, hq, hS9⟩ := hrel
            obtain ⟨ao, cap, rfl⟩ := row_form hS9.1
            have HS9 := Lib.hid hS9
            have hy2 : (ys.length : Int) ≤ 101 := by omega
            clear hS9 ST
            go_wp2_with fail
            refine (cur_pick _ B b _ 2 HS9.out.2.1 (by omega) (by omega) (by omega)).mono ?_
            rintro e w4 ⟨p, rfl, hp0, hp1, hc4, hg4⟩
            have S4 := Lib.hid (HS9.out.draw hbw hg4 hc4)
            clear hc4 hg4 HS9
            by_cases hl9 : (ys.length : Int) < 100 + p
            · go_wp2_with (at_builtin; refine wpList_append_own _ rfl _ _ 22 rfl w.heap.size 3 ti (.int .i64 0) 1 8 Try.underlying22 hi hz0 hz1 hz2 rfl (by decide) _ ys.length (ys.map (Value.int .i64)) rfl (S4.out.1.alloc _) ⟨w4.heap.size, 0, none⟩ 1 1 [.int .i64 0] rfl rfl (cell_one_new _ _ _) (by simp [Value.oneCell']) (by unfold maxLen; omega) (by omega) (by have := S4.out.2.2.size; simp; omega) ?_; intro v9 w9 hown9 hgrow9 _)
              have S5 := Lib.hid (S4.out.snoc hbw hown9 hgrow9)
              obtain ⟨a9, c9, rfl⟩ := row_form hown9
              clear hown9 hgrow9 S4
              go_wp2
              go_roundw
              case rel => exact ⟨_, ys ++ [0], by rw [List.length_append, List.length_singleton]; omega, by rw [List.length_append, List.length_singleton]; omega, S5.out⟩
              case measure => simp; omega
            · go_wp2
              go_ret
              exact ⟨_, ys, rfl, by omega, Own.of_row S4.out.1, S4.out.2.1.mono (by omega), S4.out.2.2⟩
    · have hq0 : (r == 0) = false := by simpa using h0
      by_cases h1 : r = 1
      · subst h1
        obtain ⟨ao3, cap3, rfl⟩ := row_form S3.out.1
        have hb3 : b < w3.heap.size := S3.out.2.1.lt
        go_wp2_with fail
        refine (cur_among _ B b _ (S3.out.2.1.alloc _) (by omega) _ _ (ints_lit w3 b hb3 3 9 [0, 191, 192, 223, 224, 229, 255, 256, -1]) (by simp) (by simp)).mono ?_
        rintro e w5 ⟨x, rfl, hx9, hc5, hg5⟩
        have S5 := Lib.hid (S3.out.draw hbw ((grown_alloc w3 _ _).trans hg5) hc5)
        clear hc5 hg5 S3 hx9
        go_wp2_with (at_builtin; refine wpList_append_own _ rfl _ _ 22 rfl w.heap.size 3 ti (.int .i64 0) 1 8 Try.underlying22 hi hz0 hz1 hz2 rfl (by decide) _ zs.length (zs.map (Value.int .i64)) rfl (S5.out.1.alloc _) ⟨w5.heap.size, 0, none⟩ 1 1 [.int .i64 x] rfl rfl (cell_one_new _ _ _) (by simp [Value.oneCell']) (by unfold maxLen; omega) (by omega) (by have := S5.out.2.2.size; simp; omega) ?_; intro v9 w9 hown9 hgrow9 _)
        have S6 := Lib.hid (S5.out.snoc hbw hown9 hgrow9)
        obtain ⟨a9, c9, rfl⟩ := row_form hown9
        have hll : (zs ++ [x]).length ≤ 73 := by rw [List.length_append, List.length_singleton]; omega
        clear hown9 hgrow9 S5
        generalize zs ++ [x] = ts at *
        go_wp2_with fail
        refine (cur_one _ B b _ 40 S6.out.2.1 (by omega) (by omega) (by omega)).mono ?_
        rintro e wt ⟨yes, rfl, hct, hgt⟩
        have ST := Lib.hid (S6.out.draw hbw hgt hct)
        clear hct hgt S6
        cases yes with
        | false =>
          go_wp2
          go_ret
          exact ⟨_, ts, rfl, by omega, (Own.of_row ST.out.1).mono (Nat.le_refl _) (Nat.le_refl _), ST.out.2.1.mono (by omega), ST.out.2.2⟩
        | true =>
          go_wp2
          go_loopw [4] (fun o wr => ∃ (q : Nat) (ys : List Int), ys.length ≤ 101 ∧ q ≤ k + 500 + 10 * ys.length ∧ Bs w B b q wr o ys) (fun o _ => match o with | .slice _ n _ => 102 - n | _ => 0)
          case atStart => exact ⟨_, ts, by omega, by omega, ST.out⟩
          case round =>
            obtain ⟨q, ys, hy, hq, hS9⟩ := hrel
            obtain ⟨ao, cap, rfl⟩ := row_form hS9.1
            have HS9 := Lib.hid hS9
            have hy2 : (ys.length : Int) ≤ 101 := by omega
            clear hS9 ST
            go_wp2_with fail
            refine (cur_pick _ B b _ 2 HS9.out.2.1 (by omega) (by omega) (by omega)).mono ?_
            rintro e w4 ⟨p, rfl, hp0, hp1, hc4, hg4⟩
            have S4 := Lib.hid (HS9.out.draw hbw hg4 hc4)
            clear hc4 hg4 HS9
            by_cases hl9 : (ys.length : Int) < 100 + p
            · go_wp2_with (at_builtin; refine wpList_append_own _ rfl _ _ 22 rfl w.heap.size 3 ti (.int .i64 0) 1 8 Try.underlying22 hi hz0 hz1 hz2 rfl (by decide) _ ys.length (ys.map (Value.int .i64)) rfl (S4.out.1.alloc _) ⟨w4.heap.size, 0, none⟩ 1 1 [.int .i64 0] rfl rfl (cell_one_new _ _ _) (by simp [Value.oneCell']) (by unfold maxLen; omega) (by omega) (by have := S4.out.2.2.size; simp; omega) ?_; intro v9 w9 hown9 hgrow9 _)
              have S5 := Lib.hid (S4.out.snoc hbw hown9 hgrow9)
              obtain ⟨a9, c9, rfl⟩ := row_form hown9
              clear hown9 hgrow9 S4
              go_wp2
              go_roundw
              case rel => exact ⟨_, ys ++ [0], by rw [List.length_append, List.length_singleton]; omega, by rw [List.length_append, List.length_singleton]; omega, S5.out⟩
              case measure => simp; omega
            · go_wp2
              go_ret
              exact ⟨_, ys, rfl, by omega, Own.of_row S4.out.1, S4.out.2.1.mono (by omega), S4.out.2.2⟩
      · have hq1 : (r == 1) = false := by simpa using h1
        by_cases h2 : r = 2
        · subst h2
          by_cases hx : 0 < zs.length
          · obtain ⟨g, cap, rfl, hgc, hcm, hgb⟩ := S3.out.pos hx
            unfold maxLen at hcm
            have hxi : (0 : Int) < (zs.length : Int) := by omega
            go_wp2_with fail
            refine (cur_pick _ B b _ (zs.length : Int) S3.out.2.1 (by omega) (by omega) (by omega)).mono ?_
            rintro e w5 ⟨i, rfl, hi0, hi1, hc5, hg5⟩
            obtain ⟨j, rfl⟩ : ∃ j : Nat, i = j := ⟨i.toNat, by omega⟩
            have S5 := Lib.hid (S3.out.draw hbw hg5 hc5)
            have hb5 : b < w5.heap.size := S5.out.2.1.lt
            clear hc5 hg5 S3
            go_wp2_with fail
            refine (cur_among _ B b _ (S5.out.2.1.alloc _) (by omega) _ _ (ints_lit w5 b hb5 3 4 [0, 200, 225, 255]) (by simp) (by simp)).mono ?_
            rintro e w6 ⟨x, rfl, hx9, hc6, hg6⟩
            have S6 := Lib.hid (S5.out.draw hbw ((grown_alloc w5 _ _).trans hg6) hc6)
            clear hc6 hg6 S5 hx9
            have hf6 := S6.out.1.frozenAt j
            obtain ⟨y6, hy6⟩ := get_of_lt (l := zs) (k := j) (by omega)
            have hc6 : w6.cell? ⟨g, j, none⟩ = some (.int .i64 y6) := (S6.out.1.cellAt j (by omega)).trans (by rw [List.getElem?_map, hy6]; rfl)
            have S7 := Lib.hid (S6.out.set (i := j) rfl hbw hgb x)
            have hll : (zs.set j x).length ≤ 73 := by rw [List.length_set]; omega
            have hle : (zs.set j x).length = zs.length := List.length_set
            clear hy6 S6
            generalize zs.set j x = ts at *
            go_wp2_with fail
            refine (cur_one _ B b _ 40 S7.out.2.1 (by omega) (by omega) (by omega)).mono ?_
            rintro e wt ⟨yes, rfl, hct, hgt⟩
            have ST := Lib.hid (S7.out.draw hbw hgt hct)
            clear hct hgt S7
            cases yes with
            | false =>
              go_wp2
              go_ret
              exact ⟨_, ts, rfl, by omega, (Own.of_row ST.out.1).mono (Nat.le_refl _) (Nat.le_refl _), ST.out.2.1.mono (by omega), ST.out.2.2⟩
            | true =>
              go_wp2
              go_loopw [4] (fun o wr => ∃ (q : Nat) (ys : List Int), ys.length ≤ 101 ∧ q ≤ k + 500 + 10 * ys.length ∧ Bs w B b q wr o ys) (fun o _ => match o with | .slice _ n _ => 102 - n | _ => 0)
              case atStart => exact ⟨_, ts, by omega, by omega, ST.out⟩
              case round =>
                obtain ⟨q, ys, hy, hq, hS9⟩ := hrel
                obtain ⟨ao, cap, rfl⟩ := row_form hS9.1
                have HS9 := Lib.hid hS9
                have hy2 : (ys.length : Int) ≤ 101 := by omega
                clear hS9 ST
                go_wp2_with fail
                refine (cur_pick _ B b _ 2 HS9.out.2.1 (by omega) (by omega) (by omega)).mono ?_
                rintro e w4 ⟨p, rfl, hp0, hp1, hc4, hg4⟩
                have S4 := Lib.hid (HS9.out.draw hbw hg4 hc4)
                clear hc4 hg4 HS9
                by_cases hl9 : (ys.length : Int) < 100 + p
                · go_wp2_with (at_builtin; refine wpList_append_own _ rfl _ _ 22 rfl w.heap.size 3 ti (.int .i64 0) 1 8 Try.underlying22 hi hz0 hz1 hz2 rfl (by decide) _ ys.length (ys.map (Value.int .i64)) rfl (S4.out.1.alloc _) ⟨w4.heap.size, 0, none⟩ 1 1 [.int .i64 0] rfl rfl (cell_one_new _ _ _) (by simp [Value.oneCell']) (by unfold maxLen; omega) (by omega) (by have := S4.out.2.2.size; simp; omega) ?_; intro v9 w9 hown9 hgrow9 _)
                  have S5 := Lib.hid (S4.out.snoc hbw hown9 hgrow9)
                  obtain ⟨a9, c9, rfl⟩ := row_form hown9
                  clear hown9 hgrow9 S4
                  go_wp2
                  go_roundw
                  case rel => exact ⟨_, ys ++ [0], by rw [List.length_append, List.length_singleton]; omega, by rw [List.length_append, List.length_singleton]; omega, S5.out⟩
                  case measure => simp; omega
                · go_wp2
                  go_ret
                  exact ⟨_, ys, rfl, by omega, Own.of_row S4.out.1, S4.out.2.1.mono (by omega), S4.out.2.2⟩
          · have hxi : ¬ (0 : Int) < (zs.length : Int) := by omega
            obtain ⟨ao3, cap3, rfl⟩ := row_form S3.out.1
            go_wp2_with fail
            refine (cur_one _ B b _ 40 S3.out.2.1 (by omega) (by omega) (by omega)).mono ?_
            rintro e wt ⟨yes, rfl, hct, hgt⟩
            have ST := Lib.hid (S3.out.draw hbw hgt hct)
            clear hct hgt S3
            cases yes with
            | false =>
              go_wp2
              go_ret
              exact ⟨_, zs, rfl, by omega, (Own.of_row ST.out.1).mono (Nat.le_refl _) (Nat.le_refl _), ST.out.2.1.mono (by omega), ST.out.2.2⟩
            | true =>
              go_wp2
              go_loopw [4] (fun o wr => ∃ (q : Nat) (ys : List Int), ys.length ≤ 101 ∧ q ≤ k + 500 + 10 * ys.length ∧ Bs w B b q wr o ys) (fun o _ => match o with | .slice _ n _ => 102 - n | _ => 0)
              case atStart => exact ⟨_, zs, by omega, by omega, ST.out⟩
              case round =>
                obtain ⟨q, ys, hy, hq, hS9⟩ := hrel
                obtain ⟨ao, cap, rfl⟩ := row_form hS9.1
                have HS9 := Lib.hid hS9
                have hy2 : (ys.length : Int) ≤ 101 := by omega
                clear hS9 ST
                go_wp2_with fail
                refine (cur_pick _ B b _ 2 HS9.out.2.1 (by omega) (by omega) (by omega)).mono ?_
                rintro e w4 ⟨p, rfl, hp0, hp1, hc4, hg4⟩
                have S4 := Lib.hid (HS9.out.draw hbw hg4 hc4)
                clear hc4 hg4 HS9
                by_cases hl9 : (ys.length : Int) < 100 + p
                · go_wp2_with (at_builtin; refine wpList_append_own _ rfl _ _ 22 rfl w.heap.size 3 ti (.int .i64 0) 1 8 Try.underlying22 hi hz0 hz1 hz2 rfl (by decide) _ ys.length (ys.map (Value.int .i64)) rfl (S4.out.1.alloc _) ⟨w4.heap.size, 0, none⟩ 1 1 [.int .i64 0] rfl rfl (cell_one_new _ _ _) (by simp [Value.oneCell']) (by unfold maxLen; omega) (by omega) (by have := S4.out.2.2.size; simp; omega) ?_; intro v9 w9 hown9 hgrow9 _)
                  have S5 := Lib.hid (S4.out.snoc hbw hown9 hgrow9)
                  obtain ⟨a9, c9, rfl⟩ := row_form hown9
                  clear hown9 hgrow9 S4
                  go_wp2
                  go_roundw
                  case rel => exact ⟨_, ys ++ [0], by rw [List.length_append, List.length_singleton]; omega, by rw [List.length_append, List.length_singleton]; omega, S5.out⟩
                  case measure => simp; omega
                · go_wp2
                  go_ret
                  exact ⟨_, ys, rfl, by omega, Own.of_row S4.out.1, S4.out.2.1.mono (by omega), S4.out.2.2⟩
        · have hq2 : (r == 2) = false := by simpa using h2
          obtain ⟨ao3, cap3, rfl⟩ := row_form S3.out.1
          go_wp2_with fail
          refine (cur_one _ B b _ 40 S3.out.2.1 (by omega) (by omega) (by omega)).mono ?_
          rintro e wt ⟨yes, rfl, hct, hgt⟩
          have ST := Lib.hid (S3.out.draw hbw hgt hct)
          clear hct hgt S3
          cases yes with
          | false =>
            go_wp2
            go_ret
            exact ⟨_, zs, rfl, by omega, (Own.of_row ST.out.1).mono (Nat.le_refl _) (Nat.le_refl _), ST.out.2.1.mono (by omega), ST.out.2.2⟩
          | true =>
            go_wp2
            go_loopw [4] (fun o wr => ∃ (q : Nat) (ys : List Int), ys.length ≤ 101 ∧ q ≤ k + 500 + 10 * ys.length ∧ Bs w B b q wr o ys) (fun o _ => match o with | .slice _ n _ => 102 - n | _ => 0)
            case atStart => exact ⟨_, zs, by omega, by omega, ST.out⟩
            case round =>
              obtain ⟨q, ys, hy, hq, hS9⟩ := hrel
              obtain ⟨ao, cap, rfl⟩ := row_form hS9.1
              have HS9 := Lib.hid hS9
              have hy2 : (ys.length : Int) ≤ 101 := by omega
              clear hS9 ST
              go_wp2_with fail
              refine (cur_pick _ B b _ 2 HS9.out.2.1 (by omega) (by omega) (by omega)).mono ?_
              rintro e w4 ⟨p, rfl, hp0, hp1, hc4, hg4⟩
              have S4 := Lib.hid (HS9.out.draw hbw hg4 hc4)
              clear hc4 hg4 HS9
              by_cases hl9 : (ys.length : Int) < 100 + p
              · go_wp2_with (at_builtin; refine wpList_append_own _ rfl _ _ 22 rfl w.heap.size 3 ti (.int .i64 0) 1 8 Try.underlying22 hi hz0 hz1 hz2 rfl (by decide) _ ys.length (ys.map (Value.int .i64)) rfl (S4.out.1.alloc _) ⟨w4.heap.size, 0, none⟩ 1 1 [.int .i64 0] rfl rfl (cell_one_new _ _ _) (by simp [Value.oneCell']) (by unfold maxLen; omega) (by omega) (by have := S4.out.2.2.size; simp; omega) ?_; intro v9 w9 hown9 hgrow9 _)
                have S5 := Lib.hid (S4.out.snoc hbw hown9 hgrow9)
                obtain ⟨a9, c9, rfl⟩ := row_form hown9
                clear hown9 hgrow9 S4
                go_wp2
                go_roundw
                case rel => exact ⟨_, ys ++ [0], by rw [List.length_append, List.length_singleton]; omega, by rw [List.length_append, List.length_singleton]; omega, S5.out⟩
                case measure => simp; omega
              · go_wp2
                go_ret
                exact ⟨_, ys, rfl, by omega, Own.of_row S4.out.1, S4.out.2.1.mono (by omega), S4.out.2.2⟩
  | true =>
    have C1 := Lib.hid (l2SamplesB xs v1 w1 w1.heap.size true (Own.of_row HS.out.1).lst hk2)
    have D1 := Lib.hid (specPk xs v1 w1 w1.heap.size (Own.of_row HS.out.1).lst (Nat.le_refl _) hk2)
    go_wp2_with fail
    refine C1.out.mono ?_
    rintro e w1' ⟨rfl, hw⟩
    obtain rfl := hw.symm
    go_wp2_with fail
    refine D1.out.mono ?_
    rintro e w2 ⟨v2, rfl, hrow, hb2⟩
    have hzl := pk_len xs
    have h24 := (okL_yes hk2).2
    have SQ : Bs w B b (k + 420) w2 v2 (pk xs) := ⟨Go.Joins.ownsRow_le hrow z1, (HS.out.2.2.2.1.keep (World.Below_grown hb2) (by simp)).mono (by omega), grown_new HS.out.2.2.2.2 (World.Below_grown hb2) (by simp)⟩
    have hzz : (pk xs).length ≤ 72 := by omega
    have S2 := Lib.hid SQ
    clear hrow hb2 hzl SQ D1 C1 HS
    generalize pk xs = zs at *
    go_wp2_with fail
    refine (cur_pick _ B b _ 8 S2.out.2.1 (by omega) (by omega) (by omega)).mono ?_
    rintro e w3 ⟨r, rfl, hr0, hr1, hc3, hg3⟩
    have S3 := Lib.hid (S2.out.draw hbw hg3 hc3)
    clear hc3 hg3 S2
    by_cases h0 : r = 0
    · subst h0
      by_cases hx : 0 < zs.length
      · obtain ⟨g, cap, rfl, hgc, hcm, hgb⟩ := S3.out.pos hx
        unfold maxLen at hcm
        have hxi : (0 : Int) < (zs.length : Int) := by omega
        go_wp2_with fail
        refine (cur_pick _ B b _ (zs.length : Int) S3.out.2.1 (by omega) (by omega) (by omega)).mono ?_
        rintro e w5 ⟨i, rfl, hi0, hi1, hc5, hg5⟩
        obtain ⟨j, rfl⟩ : ∃ j : Nat, i = j := ⟨i.toNat, by omega⟩
        have hji : (j : Int) ≤ (cap : Int) := by omega
        have S5 := Lib.hid ((S3.out.draw hbw hg5 hc5).take rfl (m := j) (by omega))
        have hll : (zs.take j).length ≤ 73 := by rw [List.length_take]; omega
        clear hc5 hg5 S3
        generalize zs.take j = ts at *
        go_wp2_with fail
        refine (cur_one _ B b _ 40 S5.out.2.1 (by omega) (by omega) (by omega)).mono ?_
        rintro e wt ⟨yes, rfl, hct, hgt⟩
        have ST := Lib.hid (S5.out.draw hbw hgt hct)
        clear hct hgt S5
        cases yes with
        | false =>
          go_wp2
          go_ret
          exact ⟨_, ts, rfl, by omega, (Own.of_row ST.out.1).mono (Nat.le_refl _) (Nat.le_refl _), ST.out.2.1.mono (by omega), ST.out.2.2⟩
        | true =>
          go_wp2
          go_loopw [4] (fun o wr => ∃ (q : Nat) (ys : List Int), ys.length ≤ 101 ∧ q ≤ k + 500 + 10 * ys.length ∧ Bs w B b q wr o ys) (fun o _ => match o with | .slice _ n _ => 102 - n | _ => 0)
          case atStart => exact ⟨_, ts, by omega, by omega, ST.out⟩
          case round =>
            obtain ⟨q, ys, hy, hq, hS9⟩ := hrel
            obtain ⟨ao, cap, rfl⟩ := row_form hS9.1
            have HS9 := Lib.hid hS9
            have hy2 : (ys.length : Int) ≤ 101 := by omega
            clear hS9 ST
            go_wp2_with fail
            refine (cur_pick _ B b _ 2 HS9.out.2.1 (by omega) (by omega) (by omega)).mono ?_
            rintro e w4 ⟨p, rfl, hp0, hp1, hc4, hg4⟩
            have S4 := Lib.hid (HS9.out.draw hbw hg4 hc4)
            clear hc4 hg4 HS9
            by_cases hl9 : (ys.length : Int) < 100 + p
            · go_wp2_with (at_builtin; refine wpList_append_own _ rfl _ _ 22 rfl w.heap.size 3 ti (.int .i64 0) 1 8 Try.underlying22 hi hz0 hz1 hz2 rfl (by decide) _ ys.length (ys.map (Value.int .i64)) rfl (S4.out.1.alloc _) ⟨w4.heap.size, 0, none⟩ 1 1 [.int .i64 0] rfl rfl (cell_one_new _ _ _) (by simp [Value.oneCell']) (by unfold maxLen; omega) (by omega) (by have := S4.out.2.2.size; simp; omega) ?_; intro v9 w9 hown9 hgrow9 _)
              have S5 := Lib.hid (S4.out.snoc hbw hown9 hgrow9)
              obtain ⟨a9, c9, rfl⟩ := row_form hown9
              clear hown9 hgrow9 S4
              go_wp2
              go_roundw
              case rel => exact ⟨_, ys ++ [0], by rw [List.length_append, List.length_singleton]; omega, by rw [List.length_append, List.length_singleton]; omega, S5.out⟩
              case measure => simp; omega
            · go_wp2
              go_ret
              exact ⟨_, ys, rfl, by omega, Own.of_row S4.out.1, S4.out.2.1.mono (by omega), S4.out.2.2⟩
      · have hxi : ¬ (0 : Int) < (zs.length : Int) := by omega
        obtain ⟨ao3, cap3, rfl⟩ := row_form S3.out.1
        go_wp2_with fail
        refine (cur_one _ B b _ 40 S3.out.2.1 (by omega) (by omega) (by omega)).mono ?_
        rintro e wt ⟨yes, rfl, hct, hgt⟩
        have ST := Lib.hid (S3.out.draw hbw hgt hct)
        clear hct hgt S3
        cases yes with
        | false =>
          go_wp2
          go_ret
          exact ⟨_, zs, rfl, by omega, (Own.of_row ST.out.1).mono (Nat.le_refl _) (Nat.le_refl _), ST.out.2.1.mono (by omega), ST.out.2.2⟩
        | true =>
          go_wp2
          go_loopw [4] (fun o wr => ∃ (q : Nat) (ys : List Int), ys.length ≤ 101 ∧ q ≤ k + 500 + 10 * ys.length ∧ Bs w B b q wr o ys) (fun o _ => match o with | .slice _ n _ => 102 - n | _ => 0)
          case atStart => exact ⟨_, zs, by omega, by omega, ST.out⟩
          case round =>
            obtain ⟨q, ys, hy, hq, hS9⟩ := hrel
            obtain ⟨ao, cap, rfl⟩ := row_form hS9.1
            have HS9 := Lib.hid hS9
            have hy2 : (ys.length : Int) ≤ 101 := by omega
            clear hS9 ST
            go_wp2_with fail
            refine (cur_pick _ B b _ 2 HS9.out.2.1 (by omega) (by omega) (by omega)).mono ?_
            rintro e w4 ⟨p, rfl, hp0, hp1, hc4, hg4⟩
            have S4 := Lib.hid (HS9.out.draw hbw hg4 hc4)
            clear hc4 hg4 HS9
            by_cases hl9 : (ys.length : Int) < 100 + p
            · go_wp2_with (at_builtin; refine wpList_append_own _ rfl _ _ 22 rfl w.heap.size 3 ti (.int .i64 0) 1 8 Try.underlying22 hi hz0 hz1 hz2 rfl (by decide) _ ys.length (ys.map (Value.int .i64)) rfl (S4.out.1.alloc _) ⟨w4.heap.size, 0, none⟩ 1 1 [.int .i64 0] rfl rfl (cell_one_new _ _ _) (by simp [Value.oneCell']) (by unfold maxLen; omega) (by omega) (by have := S4.out.2.2.size; simp; omega) ?_; intro v9 w9 hown9 hgrow9 _)
              have S5 := Lib.hid (S4.out.snoc hbw hown9 hgrow9)
              obtain ⟨a9, c9, rfl⟩ := row_form hown9
              clear hown9 hgrow9 S4
              go_wp2
              go_roundw
              case rel => exact ⟨_, ys ++ [0], by rw [List.length_append, List.length_singleton]; omega, by rw [List.length_append, List.length_singleton]; omega, S5.out⟩
              case measure => simp; omega
            · go_wp2
              go_ret
              exact ⟨_, ys, rfl, by omega, Own.of_row S4.out.1, S4.out.2.1.mono (by omega), S4.out.2.2⟩
    · have hq0 : (r == 0) = false := by simpa using h0
      by_cases h1 : r = 1
      · subst h1
        obtain ⟨ao3, cap3, rfl⟩ := row_form S3.out.1
        have hb3 : b < w3.heap.size := S3.out.2.1.lt
        go_wp2_with fail
        refine (cur_among _ B b _ (S3.out.2.1.alloc _) (by omega) _ _ (ints_lit w3 b hb3 3 9 [0, 191, 192, 223, 224, 229, 255, 256, -1]) (by simp) (by simp)).mono ?_
        rintro e w5 ⟨x, rfl, hx9, hc5, hg5⟩
        have S5 := Lib.hid (S3.out.draw hbw ((grown_alloc w3 _ _).trans hg5) hc5)
        clear hc5 hg5 S3 hx9
        go_wp2_with (at_builtin; refine wpList_append_own _ rfl _ _ 22 rfl w.heap.size 3 ti (.int .i64 0) 1 8 Try.underlying22 hi hz0 hz1 hz2 rfl (by decide) _ zs.length (zs.map (Value.int .i64)) rfl (S5.out.1.alloc _) ⟨w5.heap.size, 0, none⟩ 1 1 [.int .i64 x] rfl rfl (cell_one_new _ _ _) (by simp [Value.oneCell']) (by unfold maxLen; omega) (by omega) (by have := S5.out.2.2.size; simp; omega) ?_; intro v9 w9 hown9 hgrow9 _)
        have S6 := Lib.hid (S5.out.snoc hbw hown9 hgrow9)
        obtain ⟨a9, c9, rfl⟩ := row_form hown9
        have hll : (zs ++ [x]).length ≤ 73 := by rw [List.length_append, List.length_singleton]; omega
        clear hown9 hgrow9 S5
        generalize zs ++ [x] = ts at *
        go_wp2_with fail
        refine (cur_one _ B b _ 40 S6.out.2.1 (by omega) (by omega) (by omega)).mono ?_
        rintro e wt ⟨yes, rfl, hct, hgt⟩
        have ST := Lib.hid (S6.out.draw hbw hgt hct)
        clear hct hgt S6
        cases yes with
        | false =>
          go_wp2
          go_ret
          exact ⟨_, ts, rfl, by omega, (Own.of_row ST.out.1).mono (Nat.le_refl _) (Nat.le_refl _), ST.out.2.1.mono (by omega), ST.out.2.2⟩
        | true =>
          go_wp2
          go_loopw [4] (fun o wr => ∃ (q : Nat) (ys : List Int), ys.length ≤ 101 ∧ q ≤ k + 500 + 10 * ys.length ∧ Bs w B b q wr o ys) (fun o _ => match o with | .slice _ n _ => 102 - n | _ => 0)
          case atStart => exact ⟨_, ts, by omega, by omega, ST.out⟩
          case round =>
            obtain ⟨q, ys, hy, hq, hS9⟩ := hrel
            obtain ⟨ao, cap, rfl⟩ := row_form hS9.1
            have HS9 := Lib.hid hS9
            have hy2 : (ys.length : Int) ≤ 101 := by omega
            clear hS9 ST
            go_wp2_with fail
            refine (cur_pick _ B b _ 2 HS9.out.2.1 (by omega) (by omega) (by omega)).mono ?_
            rintro e w4 ⟨p, rfl, hp0, hp1, hc4, hg4⟩
            have S4 := Lib.hid (HS9.out.draw hbw hg4 hc4)
            clear hc4 hg4 HS9
            by_cases hl9 : (ys.length : Int) < 100 + p
            · go_wp2_with (at_builtin; refine wpList_append_own _ rfl _ _ 22 rfl w.heap.size 3 ti (.int .i64 0) 1 8 Try.underlying22 hi hz0 hz1 hz2 rfl (by decide) _ ys.length (ys.map (Value.int .i64)) rfl (S4.out.1.alloc _) ⟨w4.heap.size, 0, none⟩ 1 1 [.int .i64 0] rfl rfl (cell_one_new _ _ _) (by simp [Value.oneCell']) (by unfold maxLen; omega) (by omega) (by have := S4.out.2.2.size; simp; omega) ?_; intro v9 w9 hown9 hgrow9 _)
              have S5 := Lib.hid (S4.out.snoc hbw hown9 hgrow9)
              obtain ⟨a9, c9, rfl⟩ := row_form hown9
              clear hown9 hgrow9 S4
              go_wp2
              go_roundw
              case rel => exact ⟨_, ys ++ [0], by rw [List.length_append, List.length_singleton]; omega, by rw [List.length_append, List.length_singleton]; omega, S5.out⟩
              case measure => simp; omega
            · go_wp2
              go_ret
              exact ⟨_, ys, rfl, by omega, Own.of_row S4.out.1, S4.out.2.1.mono (by omega), S4.out.2.2⟩
      · have hq1 : (r == 1) = false := by simpa using h1
        by_cases h2 : r = 2
        · subst h2
          by_cases hx : 0 < zs.length
          · obtain ⟨g, cap, rfl, hgc, hcm, hgb⟩ := S3.out.pos hx
            unfold maxLen at hcm
            have hxi : (0 : Int) < (zs.length : Int) := by omega
            go_wp2_with fail
            refine (cur_pick _ B b _ (zs.length : Int) S3.out.2.1 (by omega) (by omega) (by omega)).mono ?_
            rintro e w5 ⟨i, rfl, hi0, hi1, hc5, hg5⟩
            obtain ⟨j, rfl⟩ : ∃ j : Nat, i = j := ⟨i.toNat, by omega⟩
            have S5 := Lib.hid (S3.out.draw hbw hg5 hc5)
            have hb5 : b < w5.heap.size := S5.out.2.1.lt
            clear hc5 hg5 S3
            go_wp2_with fail
            refine (cur_among _ B b _ (S5.out.2.1.alloc _) (by omega) _ _ (ints_lit w5 b hb5 3 4 [0, 200, 225, 255]) (by simp) (by simp)).mono ?_
            rintro e w6 ⟨x, rfl, hx9, hc6, hg6⟩
            have S6 := Lib.hid (S5.out.draw hbw ((grown_alloc w5 _ _).trans hg6) hc6)
            clear hc6 hg6 S5 hx9
            have hf6 := S6.out.1.frozenAt j
            obtain ⟨y6, hy6⟩ := get_of_lt (l := zs) (k := j) (by omega)
            have hc6 : w6.cell? ⟨g, j, none⟩ = some (.int .i64 y6) := (S6.out.1.cellAt j (by omega)).trans (by rw [List.getElem?_map, hy6]; rfl)
            have S7 := Lib.hid (S6.out.set (i := j) rfl hbw hgb x)
            have hll : (zs.set j x).length ≤ 73 := by rw [List.length_set]; omega
            have hle : (zs.set j x).length = zs.length := List.length_set
            clear hy6 S6
            generalize zs.set j x = ts at *
            go_wp2_with fail
            refine (cur_one _ B b _ 40 S7.out.2.1 (by omega) (by omega) (by omega)).mono ?_
            rintro e wt ⟨yes, rfl, hct, hgt⟩
            have ST := Lib.hid (S7.out.draw hbw hgt hct)
            clear hct hgt S7
            cases yes with
            | false =>
              go_wp2
              go_ret
              exact ⟨_, ts, rfl, by omega, (Own.of_row ST.out.1).mono (Nat.le_refl _) (Nat.le_refl _), ST.out.2.1.mono (by omega), ST.out.2.2⟩
            | true =>
              go_wp2
              go_loopw [4] (fun o wr => ∃ (q : Nat) (ys : List Int), ys.length ≤ 101 ∧ q ≤ k + 500 + 10 * ys.length ∧ Bs w B b q wr o ys) (fun o _ => match o with | .slice _ n _ => 102 - n | _ => 0)
              case atStart => exact ⟨_, ts, by omega, by omega, ST.out⟩
              case round =>
                obtain ⟨q, ys, hy, hq, hS9⟩ := hrel
                obtain ⟨ao, cap, rfl⟩ := row_form hS9.1
                have HS9 := Lib.hid hS9
                have hy2 : (ys.length : Int) ≤ 101 := by omega
                clear hS9 ST
                go_wp2_with fail
                refine (cur_pick _ B b _ 2 HS9.out.2.1 (by omega) (by omega) (by omega)).mono ?_
                rintro e w4 ⟨p, rfl, hp0, hp1, hc4, hg4⟩
                have S4 := Lib.hid (HS9.out.draw hbw hg4 hc4)
                clear hc4 hg4 HS9
                by_cases hl9 : (ys.length : Int) < 100 + p
                · go_wp2_with (at_builtin; refine wpList_append_own _ rfl _ _ 22 rfl w.heap.size 3 ti (.int .i64 0) 1 8 Try.underlying22 hi hz0 hz1 hz2 rfl (by decide) _ ys.length (ys.map (Value.int .i64)) rfl (S4.out.1.alloc _) ⟨w4.heap.size, 0, none⟩ 1 1 [.int .i64 0] rfl rfl (cell_one_new _ _ _) (by simp [Value.oneCell']) (by unfold maxLen; omega) (by omega) (by have := S4.out.2.2.size; simp; omega) ?_; intro v9 w9 hown9 hgrow9 _)
                  have S5 := Lib.hid (S4.out.snoc hbw hown9 hgrow9)
                  obtain ⟨a9, c9, rfl⟩ := row_form hown9
                  clear hown9 hgrow9 S4
                  go_wp2
                  go_roundw
                  case rel => exact ⟨_, ys ++ [0], by rw [List.length_append, List.length_singleton]; omega, by rw [List.length_append, List.length_singleton]; omega, S5.out⟩
                  case measure => simp; omega
                · go_wp2
                  go_ret
                  exact ⟨_, ys, rfl, by omega, Own.of_row S4.out.1, S4.out.2.1.mono (by omega), S4.out.2.2⟩
          · have hxi : ¬ (0 : Int) < (zs.length : Int) := by omega
            obtain ⟨ao3, cap3, rfl⟩ := row_form S3.out.1
            go_wp2_with fail
            refine (cur_one _ B b _ 40 S3.out.2.1 (by omega) (by omega) (by omega)).mono ?_
            rintro e wt ⟨yes, rfl, hct, hgt⟩
            have ST := Lib.hid (S3.out.draw hbw hgt hct)
            clear hct hgt S3
            cases yes with
            | false =>
              go_wp2
              go_ret
              exact ⟨_, zs, rfl, by omega, (Own.of_row ST.out.1).mono (Nat.le_refl _) (Nat.le_refl _), ST.out.2.1.mono (by omega), ST.out.2.2⟩
            | true =>
              go_wp2
              go_loopw [4] (fun o wr => ∃ (q : Nat) (ys : List Int), ys.length ≤ 101 ∧ q ≤ k + 500 + 10 * ys.length ∧ Bs w B b q wr o ys) (fun o _ => match o with | .slice _ n _ => 102 - n | _ => 0)
              case atStart => exact ⟨_, zs, by omega, by omega, ST.out⟩
              case round =>
                obtain ⟨q, ys, hy, hq, hS9⟩ := hrel
                obtain ⟨ao, cap, rfl⟩ := row_form hS9.1
                have HS9 := Lib.hid hS9
                have hy2 : (ys.length : Int) ≤ 101 := by omega
                clear hS9 ST
                go_wp2_with fail
                refine (cur_pick _ B b _ 2 HS9.out.2.1 (by omega) (by omega) (by omega)).mono ?_
                rintro e w4 ⟨p, rfl, hp0, hp1, hc4, hg4⟩
                have S4 := Lib.hid (HS9.out.draw hbw hg4 hc4)
                clear hc4 hg4 HS9
                by_cases hl9 : (ys.length : Int) < 100 + p
                · go_wp2_with (at_builtin; refine wpList_append_own _ rfl _ _ 22 rfl w.heap.size 3 ti (.int .i64 0) 1 8 Try.underlying22 hi hz0 hz1 hz2 rfl (by decide) _ ys.length (ys.map (Value.int .i64)) rfl (S4.out.1.alloc _) ⟨w4.heap.size, 0, none⟩ 1 1 [.int .i64 0] rfl rfl (cell_one_new _ _ _) (by simp [Value.oneCell']) (by unfold maxLen; omega) (by omega) (by have := S4.out.2.2.size; simp; omega) ?_; intro v9 w9 hown9 hgrow9 _)
                  have S5 := Lib.hid (S4.out.snoc hbw hown9 hgrow9)
                  obtain ⟨a9, c9, rfl⟩ := row_form hown9
                  clear hown9 hgrow9 S4
                  go_wp2
                  go_roundw
                  case rel => exact ⟨_, ys ++ [0], by rw [List.length_append, List.length_singleton]; omega, by rw [List.length_append, List.length_singleton]; omega, S5.out⟩
                  case measure => simp; omega
                · go_wp2
                  go_ret
                  exact ⟨_, ys, rfl, by omega, Own.of_row S4.out.1, S4.out.2.1.mono (by omega), S4.out.2.2⟩
        · have hq2 : (r == 2) = false := by simpa using h2
          obtain ⟨ao3, cap3, rfl⟩ := row_form S3.out.1
          go_wp2_with fail
          refine (cur_one _ B b _ 40 S3.out.2.1 (by omega) (by omega) (by omega)).mono ?_
          rintro e wt ⟨yes, rfl, hct, hgt⟩
          have ST := Lib.hid (S3.out.draw hbw hgt hct)
          clear hct hgt S3
          cases yes with
          | false =>
            go_wp2
            go_ret
            exact ⟨_, zs, rfl, by omega, (Own.of_row ST.out.1).mono (Nat.le_refl _) (Nat.le_refl _), ST.out.2.1.mono (by omega), ST.out.2.2⟩
          | true =>
            go_wp2
            go_loopw [4] (fun o wr => ∃ (q : Nat) (ys : List Int), ys.length ≤ 101 ∧ q ≤ k + 500 + 10 * ys.length ∧ Bs w B b q wr o ys) (fun o _ => match o with | .slice _ n _ => 102 - n | _ => 0)
            case atStart => exact ⟨_, zs, by omega, by omega, ST.out⟩
            case round =>
              obtain ⟨q, ys, hy, hq, hS9⟩ := hrel
              obtain ⟨ao, cap, rfl⟩ := row_form hS9.1
              have HS9 := Lib.hid hS9
              have hy2 : (ys.length : Int) ≤ 101 := by omega
              clear hS9 ST
              go_wp2_with fail
              refine (cur_pick _ B b _ 2 HS9.out.2.1 (by omega) (by omega) (by omega)).mono ?_
              rintro e w4 ⟨p, rfl, hp0, hp1, hc4, hg4⟩
              have S4 := Lib.hid (HS9.out.draw hbw hg4 hc4)
              clear hc4 hg4 HS9
              by_cases hl9 : (ys.length : Int) < 100 + p
              · go_wp2_with (at_builtin; refine wpList_append_own _ rfl _ _ 22 rfl w.heap.size 3 ti (.int .i64 0) 1 8 Try.underlying22 hi hz0 hz1 hz2 rfl (by decide) _ ys.length (ys.map (Value.int .i64)) rfl (S4.out.1.alloc _) ⟨w4.heap.size, 0, none⟩ 1 1 [.int .i64 0] rfl rfl (cell_one_new _ _ _) (by simp [Value.oneCell']) (by unfold maxLen; omega) (by omega) (by have := S4.out.2.2.size; simp; omega) ?_; intro v9 w9 hown9 hgrow9 _)
                have S5 := Lib.hid (S4.out.snoc hbw hown9 hgrow9)
                obtain ⟨a9, c9, rfl⟩ := row_form hown9
                clear hown9 hgrow9 S4
                go_wp2
                go_roundw
                case rel => exact ⟨_, ys ++ [0], by rw [List.length_append, List.length_singleton]; omega, by rw [List.length_append, List.length_singleton]; omega, S5.out⟩
                case measure => simp; omega
              · go_wp2
                go_ret
                exact ⟨_, ys, rfl, by omega, Own.of_row S4.out.1, S4.out.2.1.mono (by omega), S4.out.2.2⟩
set_option maxHeartbeats 400000 in
theorem drawUnp (w : World) (B : Nat) (v : Value) (h : CodeArg w B v) :
    Calls Try.prog 41 #[v] w fun e w' => ∃ (v' : Value) (xs : List Int), e = .returned v' ∧ xs.length ≤ 200 ∧ Own (Value.int .i64) w' w.heap.size w'.heap.size v' xs ∧ Below w.heap.size w w' := by
  obtain ⟨h0, ao, n, cap, rfl, h2, h3⟩ := h
  have hcu := Lib.hid (cur_new w B ao n cap h0 h2 h3)
  clear h3
  go_enter Try.func41, Try.ntmps41
  go_wp2_with fail
  refine (cur_bytes _ B w.heap.size 0 hcu.out (by omega)).mono ?_
  rintro e w1 ⟨v1, xs, rfl, hl, ho, hc, hg⟩
  obtain ⟨a1, c1, rfl⟩ := ho.form
  go_wp2
  go_ret
  exact ⟨_, xs, rfl, hl, ho.mono (by simp) (Nat.le_refl _), grown_below hg⟩
set_option maxHeartbeats 400000 in
theorem drawRea (w : World) (B : Nat) (v : Value) (h : CodeArg w B v) :
    Calls Try.prog 42 #[v] w fun e w' => ∃ (v' : Value) (xs : List Int), e = .returned v' ∧ xs.length ≤ 200 ∧ Own (Value.int .i64) w' w.heap.size w'.heap.size v' xs ∧ Below w.heap.size w w' := by
  go_enter Try.func42, Try.ntmps42
  go_wp2_with fail
  refine (drawUnp w B v h).mono ?_
  rintro e w1 ⟨v1, xs, rfl, hl, ho, hb⟩
  obtain ⟨a1, c1, rfl⟩ := ho.form
  go_wp2
  go_ret
  exact ⟨_, xs, rfl, hl, ho, hb⟩
end Go.Proofs.Ytkgohnlljbamlaa
