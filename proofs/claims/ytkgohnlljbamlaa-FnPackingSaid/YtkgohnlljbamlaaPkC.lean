/- Packing: bytes of samples, both programs. -/
import Derived.Test.YtkgohnlljbamlaaPkS
import Derived.Test.YtkgohnlljbamlaaApS
namespace Go.Proofs.Ytkgohnlljbamlaa
open Go.ChangeShapes Go.WideShapes Go.ChangeAt Go.RowKit Go.ChangeMaps
set_option linter.unusedSimpArgs false
set_option linter.unusedVariables false

def resPck (xs : List Int) : List Int := if okL xs then pk xs else []
theorem resPck_len (xs : List Int) : (resPck xs).length ≤ 1048576 := by
  unfold resPck
  split
  · rename_i h
    have := pk_len xs
    have := (okL_yes h).2
    omega
  · simp
theorem dif_okD {xs : List Int} (h : okL xs = true) : ∀ d ∈ dif xs, okD d = true := dif_ok xs 0 (by omega) (okL_yes h).1
theorem pkD_step {ds : List Int} {k : Nat} {d : Int} (h : ds[k]? = some d) : pkD (ds.take (k + 1)) = pkD (ds.take k) ++ byt (fold d) := by rw [take_snoc h, pkD_snoc]
theorem pkD_lenk (ds : List Int) (k : Nat) : (pkD (ds.take k)).length ≤ 3 * k := by
  have := (pkD_len (ds.take k)).2
  rw [List.length_take] at this
  omega

set_option maxRecDepth 100000 in
set_option maxHeartbeats 1000000 in
theorem implPck (xs : List Int) (v : Value) (w : World) (B : Nat) (h : Lst (Value.int .i64) w B v xs) (hB : B ≤ w.heap.size) (hn : xs.length ≤ 1048576) :
    Calls Try.prog 28 #[v] w fun e w' => ∃ v', e = .returned (.tuple #[v', .bool (okL xs)]) ∧ Own (Value.int .i64) w' w.heap.size w'.heap.size v' (resPck xs) ∧ Below w.heap.size w w' := by
  have C := Lib.hid (implDif xs v w B h hB hn)
  cases hk : okL xs with
  | false =>
    have e2 : resPck xs = [] := by unfold resPck; rw [hk]; rfl
    rw [e2]
    rw [hk] at C
    clear e2 hk
    go_enter Try.func28, Try.ntmps28
    go_wp2_with fail
    refine C.out.mono ?_
    rintro e w1 ⟨v1, rfl, ho, hb⟩
    go_wp2
    go_ret2
    exact ⟨_, rfl, own_empty _ _ hb.size, hb.alloc hb.size _⟩
  | true =>
    have e2 : resPck xs = pkD (dif xs) := by unfold resPck; rw [hk]; rfl
    have e3 : resDif xs = dif xs := by unfold resDif; rw [hk]; rfl
    have hx := dif_okD hk
    have hl : (dif xs).length ≤ 24 := by rw [dif_len]; exact (okL_yes hk).2
    rw [e2]
    rw [hk, e3] at C
    clear e2 e3 hk h
    generalize dif xs = ds at *
    have HX := Lib.hid hx
    clear hx
    go_enter Try.func28, Try.ntmps28
    go_wp2_with fail
    refine C.out.mono ?_
    rintro e w1 ⟨v1, rfl, ho, hb⟩
    obtain ⟨ti, hi, hz0, hz1, hz2⟩ := info_parts infoInt
    obtain ⟨a1, c1, rfl, hcap, hmax, hnn, hc⟩ := ho.lst
    unfold maxLen at hmax
    have HC := Lib.hid hc
    have hrow0 := row_empty w1 (base := w1.heap.size) 3 1 (Nat.le_refl _)
    have hb0 : Below w1.heap.size w1 (w1.alloc (.cells #[] 3)) := (Below.refl _ _).alloc (Nat.le_refl _) _
    clear hc hnn C
    go_wp2
    go_loopw [6, 20] (fun o i wr => ∃ (k : Nat), k ≤ ds.length ∧ i = .int .i64 k ∧ wr.ownsRow w1.heap.size 3 1 o (pkD (ds.take k)).length ((pkD (ds.take k)).map (Value.int .i64)) ∧ Below w1.heap.size w1 wr)
      (fun _ i _ => ds.length - (intOf i).toNat)
    case atStart => exact ⟨0, Nat.zero_le _, rfl, by simpa [pkD, pkN] using hrow0, hb0⟩
    case round =>
      obtain ⟨k, hk, rfl, hrow, hbl⟩ := hrel
      obtain ⟨aoo, capo, rfl⟩ := row_form hrow
      have hsz := hbl.size
      have hpl := pkD_lenk ds k
      by_cases hlt : k < ds.length
      case neg =>
        obtain rfl : k = ds.length := by omega
        rw [List.take_length] at *
        go_wp2
        go_ret2
        exact ⟨_, rfl, (Own.of_row hrow).mono hb.size (Nat.le_refl _), hb.trans (hbl.mono hb.size)⟩
      obtain ⟨d, hd⟩ := get_of_lt hlt
      have hok := HX.out d (List.mem_of_getElem? hd)
      obtain ⟨b, off, rfl, hb1, hcd⟩ := HC.out k d hd
      have hcd' := cellOf hbl (by omega) hcd
      have HS := Lib.hid (pkD_step hd)
      have hi0 : (0 : Int) ≤ (k : Int) := by omega
      have hi1 : (k : Int) < (ds.length : Int) := by omega
      have HRW := Lib.hid hrow
      have hwl := byt_len (fold d)
      have hwp := wid_pos (fold d)
      generalize pkD (ds.take k) = cs at *
      clear hd hcd hrow
      have D := Lib.hid (implBytes d wr hok)
      go_wp2_with fail
      refine D.out.mono ?_
      rintro e w2 ⟨v2, rfl, hr2, hb2⟩
      generalize hbs : byt (fold d) = bs at *
      have rw2 := row_below HRW.out hb2
      have hls := (Own.of_row (n := bs.length) (xs := bs) hr2).lst
      have z2 := hb2.size
      have HBS := Lib.hid hbs
      clear hbs
      go_wp2_with (at_builtin; refine wpList_append_src _ rfl _ _ 22 rfl w1.heap.size 3 ti (.int .i64 0) 8 Try.underlying22 hi hz0 hz1 hz2 rfl _ cs.length (cs.map (Value.int .i64)) rfl rw2 _ bs.length (bs.map (Value.int .i64)) rfl (src_ints hls) (by unfold maxLen; omega) (by omega) (by omega) ?_; intro v3 w3 hr3 hg3 _)
      have b3 : Below w1.heap.size wr w3 := (hb2.mono hsz).trans (Below.grown (Below.refl _ w2) hg3 (by omega) (fun q hq => (rw2.lt q hq).1))
      have hrow3 : w3.ownsRow w1.heap.size 3 1 v3 (cs ++ bs).length ((cs ++ bs).map (Value.int .i64)) := by simpa using hr3
      clear hr3 hg3 rw2 hls
      go_wp2
      go_roundw
      case rel => exact ⟨k + 1, by omega, by go_num, by rw [HS.out]; exact hrow3, hbl.trans b3⟩
      case measure => simp [intOf]; omega

set_option maxRecDepth 100000 in
set_option maxHeartbeats 1000000 in
/-- The bytes of samples that are not too large. -/
theorem specPk (xs : List Int) (v : Value) (w : World) (B : Nat) (h : Lst (Value.int .i64) w B v xs) (hB : B ≤ w.heap.size) (hk : okL xs = true) :
    Calls Try.prog 63 #[v] w fun e w' => ∃ v', e = .returned v' ∧ w'.ownsRow w.heap.size 3 1 v' (pk xs).length ((pk xs).map (Value.int .i64)) ∧ Below w.heap.size w w' := by
  have gx := (okL_yes hk).1
  have gn := (okL_yes hk).2
  have C := Lib.hid (specDiffs xs v w B h hB (by omega) (fun x hx => by have := gx x hx; omega))
  have e2 : pk xs = pkD (dif xs) := rfl
  have hx := dif_okD hk
  have hll : xs.length = (dif xs).length := (dif_len xs).symm
  rw [e2]
  rw [hll] at C gn
  clear e2 hk h gx hll
  generalize dif xs = ds at *
  have HX := Lib.hid hx
  clear hx
  go_enter Try.func63, Try.ntmps63
  go_wp2_with fail
  refine C.out.mono ?_
  rintro e w1 ⟨v1, rfl, hrw, hb⟩
  have ho := Own.of_row hrw
  obtain ⟨ti, hi, hz0, hz1, hz2⟩ := info_parts infoInt
  obtain ⟨a1, c1, rfl, hcap, hmax, hnn, hc⟩ := ho.lst
  unfold maxLen at hmax
  have HC := Lib.hid hc
  have hrow0 := row_empty w1 (base := w1.heap.size) 3 1 (Nat.le_refl _)
  have hb0 : Below w1.heap.size w1 (w1.alloc (.cells #[] 3)) := (Below.refl _ _).alloc (Nat.le_refl _) _
  clear hc hnn C
  go_wp2
  go_loopw [4, 5] (fun o i wr => ∃ (k : Nat), k ≤ ds.length ∧ i = .int .i64 k ∧ wr.ownsRow w1.heap.size 3 1 o (pkD (ds.take k)).length ((pkD (ds.take k)).map (Value.int .i64)) ∧ Below w1.heap.size w1 wr)
    (fun _ i _ => ds.length - (intOf i).toNat)
  case atStart => exact ⟨0, Nat.zero_le _, rfl, by simpa [pkD, pkN] using hrow0, hb0⟩
  case round =>
    obtain ⟨k, hk, rfl, hrow, hbl⟩ := hrel
    obtain ⟨aoo, capo, rfl⟩ := row_form hrow
    have hsz := hbl.size
    have hpl := pkD_lenk ds k
    by_cases hlt : k < ds.length
    case neg =>
      obtain rfl : k = ds.length := by omega
      rw [List.take_length] at *
      go_wp2
      go_ret
      exact ⟨_, rfl, Go.Joins.ownsRow_le hrow hb.size, hb.trans (hbl.mono hb.size)⟩
    obtain ⟨d, hd⟩ := get_of_lt hlt
    have hok := HX.out d (List.mem_of_getElem? hd)
    obtain ⟨b, off, rfl, hb1, hcd⟩ := HC.out k d hd
    have hcd' := cellOf hbl (by omega) hcd
    have HS := Lib.hid (pkD_step hd)
    have hi0 : (0 : Int) ≤ (k : Int) := by omega
    have hi1 : (k : Int) < (ds.length : Int) := by omega
    have HRW := Lib.hid hrow
    have hwl := byt_len (fold d)
    have hwp := wid_pos (fold d)
    generalize pkD (ds.take k) = cs at *
    clear hd hcd hrow
    have D0 := Lib.hid (specFold d wr hok)
    have D := Lib.hid (specBytes (fold d) wr (fold_nonneg d) (okD_fold hok))
    go_wp2_with fail
    refine D0.out.mono ?_
    rintro e w9 ⟨rfl, hw9⟩
    obtain rfl := hw9.symm
    go_wp2_with fail
    refine D.out.mono ?_
    rintro e w2 ⟨v2, rfl, hr2, hb2⟩
    generalize hbs : byt (fold d) = bs at *
    have rw2 := row_below HRW.out hb2
    have hls := (Own.of_row (n := bs.length) (xs := bs) hr2).lst
    have z2 := hb2.size
    have HBS := Lib.hid hbs
    clear hbs
    go_wp2_with (at_builtin; refine wpList_append_src _ rfl _ _ 22 rfl w1.heap.size 3 ti (.int .i64 0) 8 Try.underlying22 hi hz0 hz1 hz2 rfl _ cs.length (cs.map (Value.int .i64)) rfl rw2 _ bs.length (bs.map (Value.int .i64)) rfl (src_ints hls) (by unfold maxLen; omega) (by omega) (by omega) ?_; intro v3 w3 hr3 hg3 _)
    have b3 : Below w1.heap.size wr w3 := (hb2.mono hsz).trans (Below.grown (Below.refl _ w2) hg3 (by omega) (fun q hq => (rw2.lt q hq).1))
    have hrow3 : w3.ownsRow w1.heap.size 3 1 v3 (cs ++ bs).length ((cs ++ bs).map (Value.int .i64)) := by simpa using hr3
    clear hr3 hg3 rw2 hls
    go_wp2
    go_roundw
    case rel => exact ⟨k + 1, by omega, by go_num, by rw [HS.out]; exact hrow3, hbl.trans b3⟩
    case measure => simp [intOf]; omega

set_option maxHeartbeats 400000 in
theorem specPck (xs : List Int) (v : Value) (w : World) (B : Nat) (h : Lst (Value.int .i64) w B v xs) (hB : B ≤ w.heap.size) (hn : xs.length ≤ 1048576) :
    Calls Try.prog 27 #[v] w fun e w' => ∃ v', e = .returned (.tuple #[v', .bool (okL xs)]) ∧ Own (Value.int .i64) w' w.heap.size w'.heap.size v' (resPck xs) ∧ Below w.heap.size w w' := by
  cases hk : okL xs with
  | false =>
    have e2 : resPck xs = [] := by unfold resPck; rw [hk]; rfl
    have C := Lib.hid (l2SamplesB xs v w B false h hk)
    rw [e2]
    clear e2 hk
    go_enter Try.func27, Try.ntmps27
    go_wp2_with fail
    refine C.out.mono ?_
    rintro e w1 ⟨rfl, rfl⟩
    go_wp2
    go_ret2
    exact ⟨_, rfl, own_empty _ _ (Nat.le_refl _), (Below.refl _ _).alloc (Nat.le_refl _) _⟩
  | true =>
    have e2 : resPck xs = pk xs := by unfold resPck; rw [hk]; rfl
    have C := Lib.hid (l2SamplesB xs v w B true h hk)
    have D := Lib.hid (specPk xs v w B h hB hk)
    rw [e2]
    clear e2 hk
    go_enter Try.func27, Try.ntmps27
    go_wp2_with fail
    refine C.out.mono ?_
    rintro e w1 ⟨rfl, rfl⟩
    go_wp2_with fail
    refine D.out.mono ?_
    rintro e w2 ⟨v2, rfl, hrow, hb⟩
    obtain ⟨a2, c2, rfl⟩ := row_form hrow
    go_wp2
    go_ret2
    exact ⟨_, rfl, Own.of_row hrow, hb⟩
end Go.Proofs.Ytkgohnlljbamlaa
