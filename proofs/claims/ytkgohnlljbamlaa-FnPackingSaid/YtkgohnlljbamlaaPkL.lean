/- Packing: differences of samples, the program. -/
import Derived.Test.YtkgohnlljbamlaaPkF
import Derived.Test.YtkgohnlljbamlaaCln
import Derived.Laws.CopyOwn
import Derived.StillTailTactics
namespace Go.Proofs.Ytkgohnlljbamlaa
open Go.ChangeShapes Go.WideShapes Go.ChangeAt Go.RowKit Go.ChangeMaps
set_option linter.unusedSimpArgs false
set_option linter.unusedVariables false

theorem row_heap {w : World} {base g n : Nat} {e : TypeId} {xs : List Value} (h : w.ownsRow base e 1 (.slice (some ⟨g, 0, none⟩) n n) n xs) : w.heap[g]? = some (.cells xs.toArray e (0, 0)) := by
  rcases h.2 with ⟨h', _⟩ | ⟨g', cap', cur, h', hb, hg, hnc, hcm, hcs, htake⟩
  · simp at h'
  · simp only [Value.slice.injEq, Option.some.injEq, Addr.mk.injEq, and_true, true_and] at h'
    obtain ⟨rfl, rfl⟩ := h'
    rw [hg, ← htake, List.take_of_length_le (by simp [hcs])]
theorem heap_row {w : World} {base g n : Nat} {e : TypeId} {xs : List Value} (h : w.heap[g]? = some (.cells xs.toArray e (0, 0))) (hb : base ≤ g) (hl : xs.length = n) (hm : n ≤ maxLen) : w.ownsRow base e 1 (.slice (some ⟨g, 0, none⟩) n n) n xs :=
  ⟨by simp [hl], .inr ⟨g, n, xs.toArray, rfl, hb, h, Nat.le_refl _, hm, by simp [hl], by simp [← hl, List.take_of_length_le]⟩⟩
/-- An owned row that lies in block g. -/
theorem own_block {w : World} {L g n cap : Nat} {e : TypeId} {xs : List Int} (h : w.ownsRow L e 1 (.slice (some ⟨g, 0, none⟩) n cap) n (xs.map (Value.int .i64))) : Own (Value.int .i64) w L w.heap.size (.slice (some ⟨g, 0, none⟩) n cap) xs := Own.of_row h
/-- What is known of a source for copy. -/
theorem src_copy {w : World} {B : Nat} {ao : Option Addr} {n cap : Nat} {xs : List Int} (h : Lst (Value.int .i64) w B (.slice ao n cap) xs) (m : Nat) :
    0 < ((xs.take m).map (Value.int .i64)).length → ∃ ad, ao = some ad ∧ ∀ j v, ((xs.take m).map (Value.int .i64))[j]? = some v → w.cell? (ad.add j) = some v := by
  intro h0
  obtain ⟨ao', cap', hv, h1, h2, h3, h4⟩ := h
  simp only [Value.slice.injEq] at hv
  obtain ⟨rfl, rfl, rfl⟩ := hv
  have hx : 0 < xs.length := by
    rcases xs with _ | ⟨x, xs⟩
    · simp at h0
    · simp
  obtain ⟨x, hx0⟩ := get_of_lt hx
  obtain ⟨b, off, rfl, _, _⟩ := h4 0 x hx0
  refine ⟨_, rfl, fun j v hj => ?_⟩
  obtain ⟨y, hy, rfl⟩ := map_get hj
  rw [List.getElem?_take] at hy
  split at hy
  · obtain ⟨b', off', e, _, hc⟩ := h4 j y hy
    cases e
    rw [Addr.add_lit]; exact hc
  · cases hy
def resDif (xs : List Int) : List Int := if okL xs then dif xs else []
theorem resDif_len (xs : List Int) (h : xs.length ≤ 1048576) : (resDif xs).length ≤ 1048576 := by
  unfold resDif
  split
  · rw [dif_len]; exact h
  · simp
/-- The samples from place k on turned to their differences. -/
def halfD (xs : List Int) (k : Nat) : List Int := xs.take k ++ (dif xs).drop k
theorem halfD_len (xs : List Int) (k : Nat) : (halfD xs k).length = xs.length := by simp [halfD, dif_len]; omega
theorem halfD_end (xs : List Int) : halfD xs xs.length = xs := by unfold halfD; rw [List.take_length, List.drop_of_length_le (by rw [dif_len]; omega), List.append_nil]
theorem halfD_start (xs : List Int) {k : Nat} (h : k ≤ 1) : halfD xs k = dif xs := by
  match k, h with
  | 0, _ => simp [halfD]
  | 1, _ =>
    cases xs with
    | nil => rfl
    | cons x xs => simp [halfD, dif, difF]
theorem halfD_get {xs : List Int} {k j : Nat} (h : j < k) (hk : k ≤ xs.length) : (halfD xs k)[j]? = xs[j]? := by
  unfold halfD
  rw [List.getElem?_append_left (by simp; omega), List.getElem?_take, if_pos h]
theorem halfD_set {xs : List Int} {k : Nat} {x y : Int} (hk : k + 2 ≤ xs.length) (hx : xs[k + 1]? = some x) (hy : xs[k]? = some y) : (halfD xs (k + 2)).set (k + 1) (x - y) = halfD xs (k + 1) := by
  have hd := dif_get hx
  simp only [prv, List.getD, hy, Option.getD_some] at hd
  apply List.ext_getElem?
  intro j
  by_cases hj : j = k + 1
  · subst hj
    rw [List.getElem?_set_self (by rw [halfD_len]; omega)]
    unfold halfD
    rw [List.getElem?_append_right (by simp; omega), List.getElem?_drop]
    simp only [List.length_take]
    rw [show k + 1 + (k + 1 - min (k + 1) xs.length) = k + 1 by omega, hd]
  · rw [List.getElem?_set_ne (fun e => hj e.symm)]
    unfold halfD
    by_cases hlt : j < k + 1
    · rw [List.getElem?_append_left (by simp; omega), List.getElem?_append_left (by simp; omega), List.getElem?_take, List.getElem?_take, if_pos (by omega), if_pos hlt]
    · rw [List.getElem?_append_right (by simp; omega), List.getElem?_append_right (by simp; omega), List.getElem?_drop, List.getElem?_drop]
      simp only [List.length_take]
      congr 1; omega

set_option maxRecDepth 100000 in
set_option maxHeartbeats 1000000 in
theorem implDif (xs : List Int) (v : Value) (w : World) (B : Nat) (h : Lst (Value.int .i64) w B v xs) (hB : B ≤ w.heap.size) (hn : xs.length ≤ 1048576) :
    Calls Try.prog 17 #[v] w fun e w' => ∃ v', e = .returned (.tuple #[v', .bool (okL xs)]) ∧ Own (Value.int .i64) w' w.heap.size w'.heap.size v' (resDif xs) ∧ Below w.heap.size w w' := by
  obtain ⟨ti, hi, hz0, hz1, hz2⟩ := info_parts infoInt
  have hsz := Lib.hid (show (Try.prog.info? 3).map (·.size) = some 1 by rw [hi]; simp [hz1])
  cases hk : okL xs with
  | false =>
    have e2 : resDif xs = [] := by unfold resDif; rw [hk]; rfl
    have C := Lib.hid (implAreSB xs v w B false h hk)
    rw [e2]
    clear e2 hk
    go_enter Try.func17, Try.ntmps17
    go_wp2_with fail
    refine C.out.mono ?_
    rintro e w1 ⟨rfl, rfl⟩
    go_wp2
    go_ret2
    exact ⟨_, rfl, own_empty _ _ (Nat.le_refl _), (Below.refl _ _).alloc (Nat.le_refl _) _⟩
  | true =>
    have e2 : resDif xs = dif xs := by unfold resDif; rw [hk]; rfl
    have C := Lib.hid (implAreSB xs v w B true h hk)
    obtain ⟨gx, gn⟩ := okL_yes hk
    have GX := Lib.hid gx
    rw [e2]
    have H0 := Lib.hid h
    obtain ⟨ao, cap, rfl, hcap, hmax, h0, hc⟩ := h
    clear e2 hk gx hc h0 hmax hcap
    have hnm : xs.length ≤ maxLen := by unfold maxLen; omega
    go_enter Try.func17, Try.ntmps17
    go_wp2_with fail
    refine C.out.mono ?_
    rintro e w1 ⟨rfl, rfl⟩
    go_wp2_with (first
      | (at_make
         refine wpList_make_full _ rfl _ _ 22 rfl w1.heap.size 3 ti (.int .i64 0) 1 Try.underlying22 hi hz0 hz1 .i64 .i64 _ _ xs.length rfl rfl rfl rfl (by rw [hz2]; omega) hnm (Nat.le_refl _) ?_
         intro w2 hown hgrow
         have hb2 : Below w1.heap.size w1 w2 := (Below.refl _ _).grown hgrow (Nat.le_refl _) (by simp)
         have H2 := H0.out.below (hb2.mono hB)
         have hg2 := row_heap hown
         have hcs := Lib.hid (src_copy H2 xs.length)
         rw [List.take_length] at hcs
         have HL : (madeCells (Value.int .i64 0).cells (xs.length * 1)).toList.length = xs.length := by simp [madeCells, Value.cells]
         generalize (madeCells (Value.int .i64 0).cells (xs.length * 1)).toList = zs at *
         have HG2 := Lib.hid hg2
         have HZ := Lib.hid HL
         clear hg2 HL hown hgrow
         obtain ⟨cs, hcsE⟩ : ∃ cs, cs = xs.map (Value.int .i64) := ⟨_, rfl⟩
         rw [← hcsE] at hcs
         have HCE := Lib.hid hcsE
         have hcl : cs.length = xs.length := by rw [hcsE, List.length_map]
         have HCL := Lib.hid hcl
         clear hcsE hcl)
      | (with_reducible refine wpList_copy_splice (o := ⟨some 15, _, _, _, _, _⟩) rfl _ _ 22 22 rfl 3 Try.underlying22 hsz.out _ _ _ _ _ _ rfl rfl w1.heap.size 0 zs 3 HG2.out cs (by rw [HCL.out]; simp) (fun h => ⟨rfl, hcs.out h⟩) (by rw [HCL.out, HZ.out]; omega) (by rw [HCE.out]; simp [Value.oneCell']) w1.heap.size w1 hb2 (Nat.le_refl _) ?_
         intro w3 HG3 hb3))
    have hrow : w3.ownsRow w1.heap.size 3 1 (.slice (some ⟨w1.heap.size, 0, none⟩) xs.length xs.length) xs.length (xs.map (Value.int .i64)) := by
      refine heap_row ?_ (Nat.le_refl _) (by simp) hnm
      rw [HG3.out]
      have : splice zs 0 cs = xs.map (Value.int .i64) := by
        unfold splice
        rw [HCL.out, ← HZ.out, HCE.out]; simp
      rw [this]
    have HR := Lib.hid hrow
    clear hrow HG3 HG2 HZ hcs HCE HCL
    go_loopw [5] (fun i wr => ∃ (k : Nat), (k = 0 → xs.length = 0) ∧ k ≤ xs.length ∧ i = .int .i64 ((k : Int) - 1) ∧ wr.ownsRow w1.heap.size 3 1 (.slice (some ⟨w1.heap.size, 0, none⟩) xs.length xs.length) xs.length ((halfD xs k).map (Value.int .i64)) ∧ Below w1.heap.size w1 wr) (fun i _ => (intOf i).toNat)
    case atStart => exact ⟨xs.length, fun h => h, Nat.le_refl _, rfl, by rw [halfD_end]; exact HR.out, hb3⟩
    case round =>
      obtain ⟨k, hk0, hk, rfl, hrow, hbl⟩ := hrel
      have HRW := Lib.hid hrow
      by_cases hlt : 2 ≤ k
      · obtain ⟨m, rfl⟩ : ∃ m, k = m + 2 := ⟨k - 2, by omega⟩
        obtain ⟨x, hx⟩ := get_of_lt (l := xs) (k := m + 1) (by omega)
        obtain ⟨y, hy⟩ := get_of_lt (l := xs) (k := m) (by omega)
        have bx := GX.out x (List.mem_of_getElem? hx)
        have by' := GX.out y (List.mem_of_getElem? hy)
        have hc1 : wr.cell? ⟨w1.heap.size, m + 1, none⟩ = some (.int .i64 x) := (hrow.cellAt (m + 1) (by omega)).trans (by rw [List.getElem?_map, halfD_get (by omega) hk, hx]; rfl)
        have hc2 : wr.cell? ⟨w1.heap.size, m, none⟩ = some (.int .i64 y) := (hrow.cellAt m (by omega)).trans (by rw [List.getElem?_map, halfD_get (by omega) hk, hy]; rfl)
        have hf1 := hrow.frozenAt (m + 1)
        have HS := Lib.hid (halfD_set hk hx hy)
        obtain ⟨bx1, bx2⟩ := bx
        obtain ⟨by1, by2⟩ := by'
        have e0 : ((m + 2 : Nat) : Int) - 1 = (m : Int) + 1 := by omega
        have hi0 : (0 : Int) ≤ (m : Int) + 1 := by omega
        have hi1 : (m : Int) + 1 < (xs.length : Int) := by omega
        have hi2 : (m : Int) < (xs.length : Int) := by omega
        have s1 : IntKind.i64.wrap (m : Int) = (m : Int) := IntWalk.i64_in _ (by omega)
        have s3 : IntKind.i64.wrap (x - y) = x - y := IntWalk.i64_in _ (by omega)
        have s2 : ((m : Int) + 1).toNat = m + 1 := by omega
        rw [e0]
        clear hx hy hrow e0
        go_wp2
        have hc1' : ({ wr with drawn := wr.drawn + 1 } : World).cell? ⟨w1.heap.size, m + 1, none⟩ = some (.int .i64 x) := hc1
        have hc2' : ({ wr with drawn := wr.drawn + 1 } : World).cell? ⟨w1.heap.size, m, none⟩ = some (.int .i64 y) := hc2
        go_still_tail 11, (by kernel_rfl)
        change wpList _ _ _ _ _ (wr.drewN 1)
        have hc5 : (wr.drewN 1).cell? ⟨w1.heap.size, m + 1, none⟩ = some (.int .i64 x) := hc1
        have hf5 : (wr.drewN 1).frozen? ⟨w1.heap.size, m + 1, none⟩ = false := hf1
        have hrow5 := Lib.hid ((row_drewN HRW.out 1).stored (m + 1) (.int .i64 (x - y))).1
        have hb5 := (drewN_b hbl 1).setCell (p := ⟨w1.heap.size, m + 1, none⟩) (Nat.le_refl _) (.int .i64 (x - y))
        clear hc1 hc2 hc1' hc2' hf1
        generalize wr.drewN 1 = w5 at *
        go_wp2
        go_roundw
        case rel =>
          refine ⟨m + 1, by omega, by omega, by go_num, ?_, hb5⟩
          rw [← HS.out, List.map_set]
          exact hrow5.out
        case measure => simp [intOf] <;> omega
      · have hle : ¬ (0 : Int) < (k : Int) - 1 := by omega
        have HE := Lib.hid (halfD_start xs (k := k) (by omega))
        go_wp2
        go_ret2
        rw [HE.out] at HRW
        have hl := dif_len xs
        have ho := Own.of_row HRW.out
        refine ⟨_, rfl, ?_, hbl⟩
        exact ho
end Go.Proofs.Ytkgohnlljbamlaa
