/- Tracks: the program's track of two lists; a mark added. -/
import Derived.Test.YtklilfbokpljkacTkC
import Derived.Test.YtklilfbokpljkacTkA
namespace Go.Proofs.Ytklilfbokpljkac
open Go.ChangeShapes Go.WideShapes Go.ChangeAt Go.RowKit Go.ChangeMaps
set_option linter.unusedSimpArgs false
set_option linter.unusedVariables false
set_option linter.unusedSimpArgs false
set_option linter.unusedVariables false

set_option maxRecDepth 100000 in
set_option maxHeartbeats 2000000 in
theorem implOf (va vb : Value) (xs ys T : List GClockMark) (w : World) (ha : SrcK w 2 va xs.length (xs.flatMap encClockMark)) (hb : SrcK w 2 vb ys.length (ys.flatMap encClockMark)) (hx1 : 1 ≤ xs.length) (hx2 : xs.length ≤ 100) (hy : ys.length ≤ 100) (hp : T.Perm (xs ++ ys)) (hT : ascS T) (u : Bool) (hu : goodTk T = u) :
    Calls Try.prog 116 #[va, vb] w fun e w' => ∃ v', e = .returned (.tuple #[v', .bool u]) ∧ ClockMarkO w' w.heap.size w'.heap.size v' (if u = true then T else []) ∧ Below w.heap.size w w' := by
  obtain ⟨W0, hW0⟩ : ∃ W0, w.alloc (.cells #[va, vb] 45) = W0 := ⟨_, rfl⟩
  have N1 : Below w.heap.size w W0 := hW0 ▸ (Below.refl _ w).alloc (Nat.le_refl _) _
  have bx : Bx W0 w.heap.size [va, vb] := hW0 ▸ Bx.new w [va, vb] 45
  have CC := Lib.hid (implCat va vb xs.length ys.length w.heap.size (xs.flatMap encClockMark) (ys.flatMap encClockMark) W0 (bx.2 0 _ rfl) (bx.2 1 _ rfl) (ha.below N1) (hb.below N1) hx2 hy (by omega))
  have hlen : (xs ++ ys).length = xs.length + ys.length := List.length_append
  have hfl : (xs ++ ys).flatMap encClockMark = xs.flatMap encClockMark ++ ys.flatMap encClockMark := List.flatMap_append
  obtain ⟨aa, ca, rfl, -⟩ := ha
  obtain ⟨ab, cb, rfl, -⟩ := hb
  have hlT : T.length = xs.length + ys.length := by rw [hp.length_eq, hlen]
  rw [← hfl, ← hlen] at CC
  have HPT := Lib.hid (And.intro hp (And.intro hT hu))
  clear hp hT hu bx hfl
  have hz1 : 1 ≤ (xs ++ ys).length := by omega
  have hz2 : (xs ++ ys).length ≤ 200 := by omega
  generalize xs ++ ys = zs at *
  clear hlen hlT
  go_enter Try.func116, Try.ntmps116
  go_wp2_with fail
  refine CC.out.mono ?_
  rintro e w1 ⟨v', rfl, hrow, hb1⟩
  have C1 := N1.trans (hb1.mono N1.size)
  have hz3 := C1.size
  obtain ⟨g, cap, rfl, hg1, hg2, hg3, hg4⟩ := row_some hrow hz1
  have ho : OwnK encClockMark 2 w1 w.heap.size w1.heap.size (.slice (some ⟨g, 0, none⟩) zs.length cap) zs := (OwnK.of_row encClockMark_len (by omega) hrow).mono N1.size (Nat.le_refl _)
  have CS := Lib.hid (sortTk hz1 (by omega) ho)
  clear hrow ho hb1 N1 hW0 CC hg3
  go_wp2_with fail
  refine CS.out.mono ?_
  rintro e w2 ⟨rfl, ⟨zt, hp, hs, ho⟩, hb2⟩
  have C2 := C1.trans hb2
  have hz4 := C2.size
  obtain ⟨hq, hq2⟩ := good_perm hs HPT.out.2.1 (HPT.out.1.trans hp.symm)
  rw [HPT.out.2.2] at hq hq2
  have CT := Lib.hid (implGoodTk zt _ w2 w2.heap.size ho.lst (Nat.le_refl _) u hq)
  have HQ := Lib.hid hq2
  have HO := Lib.hid ho
  clear hq hq2 ho hs hp hb2 C1 hz3 CS
  cases u with
  | false =>
    go_wp2_with fail
    refine CT.out.mono ?_
    rintro e w3 ⟨rfl, hb3⟩
    have C3 := C2.trans (hb3.mono hz4)
    go_wp2
    go_ret2
    exact ⟨_, rfl, ownK_empty encClockMark_len (by omega) w3 _ C3.size, C3.alloc C3.size _⟩
  | true =>
    have e9 := HQ.out rfl
    subst e9
    go_wp2_with fail
    refine CT.out.mono ?_
    rintro e w3 ⟨rfl, hb3⟩
    have C3 := C2.trans (hb3.mono hz4)
    go_wp2
    go_ret2
    exact ⟨_, rfl, (HO.out.below hb3).mono (Nat.le_refl _) hb3.size, C3⟩
theorem lst_src {xs : List GClockMark} {v : Value} {w : World} {B : Nat} (h : ClockMarkL w B v xs) (hl : 1 ≤ xs.length) : SrcK w 2 v xs.length (xs.flatMap encClockMark) := by
  rcases h.split encClockMark_len (by omega) with ⟨-, e1⟩ | ⟨a, cap, rfl, hcap, hmax, hcc⟩
  · rw [e1] at hl; simp at hl
  · exact ⟨a, cap, rfl, flat_len encClockMark_len xs, fun j u hu => (hcc j u hu).2, oneCM xs⟩
set_option maxRecDepth 100000 in
set_option maxHeartbeats 2000000 in
theorem implAdd (xs : List GClockMark) (m : GClockMark) (v v2 : Value) (w : World) (B : Nat) (h : ClockMarkL w B v xs) (hv2 : v2 = .agg #[.int .i64 m.pShown, .int .i64 m.pTrue]) (hB : B ≤ w.heap.size) (hn : szsClockMark xs ≤ 1048576) :
    Calls Try.prog 74 #[v, v2] w fun e w' => ∃ v', e = .returned (.tuple #[v', .bool (okAdd xs m)]) ∧ ClockMarkO w' w.heap.size w'.heap.size v' (resAdd xs m) ∧ Below w.heap.size w w' := by
  subst hv2
  have N1 := (Below.refl w.heap.size w).alloc (Nat.le_refl _) (.cells #[.int .i64 m.pShown, .int .i64 m.pTrue] 50)
  have bx := Bx.new w (encClockMark m) 50
  obtain ⟨W0, hW0⟩ : ∃ W0, w.alloc (.cells #[.int .i64 m.pShown, .int .i64 m.pTrue] 50) = W0 := ⟨_, rfl⟩
  have N0 : Below w.heap.size w W0 := hW0 ▸ N1
  have b0 : Bx W0 w.heap.size (encClockMark m) := hW0 ▸ bx
  clear N1 bx
  have h0 := h.below (N0.mono hB)
  have hB0 := Nat.le_trans hB N0.size
  cases hg : goodTk xs with
  | false =>
    obtain ⟨ha, hr⟩ := okAdd_no (m := m) (Or.inl hg)
    rw [ha, hr]
    have C := Lib.hid (implGoodTk xs v W0 B h0 hB0 false hg)
    clear ha hr hg
    obtain ⟨ao, cap, rfl⟩ := h.form
    clear h h0
    go_enter Try.func74, Try.ntmps74
    go_wp2_with fail
    refine C.out.mono ?_
    rintro e w1 ⟨rfl, hb⟩
    have hC : Below w.heap.size w w1 := N0.trans (hb.mono N0.size)
    go_wp2
    go_ret2
    exact ⟨_, rfl, ownK_empty encClockMark_len (by omega) w1 _ hC.size, hC.alloc hC.size _⟩
  | true =>
    have C := Lib.hid (implGoodTk xs v W0 B h0 hB0 true hg)
    have hk := goodTk_yes hg
    have hk1 := hk.1.1
    have hk2 := hk.1.2
    have HE : Hid (okAdd xs m = goodTk (putTk xs m) ∧ resAdd xs m = if goodTk (putTk xs m) = true then putTk xs m else []) := Lib.hid (by
      unfold resAdd okAdd
      rw [hg, Bool.true_and]
      exact ⟨rfl, rfl⟩)
    have CO := Lib.hid (fun W b (q : Below W0.heap.size W0 W) (bm : Bx W b (encClockMark m)) => implOf v (.slice (some ⟨b, 0, none⟩) 1 1) xs [m] (putTk xs m) W (lst_src (h0.below (q.mono hB0)) (by omega)) (by
      have e : [m].flatMap encClockMark = encClockMark m := by simp
      rw [e]
      exact srcK_box bm (fun u hu => oneCM [m] u (by simpa using hu))) (by omega) (by omega) (by simp) (putTk_perm xs m) (putTk_ascS (ascS_of hk.2.2) m) _ rfl)
    rw [HE.out.1, HE.out.2]
    generalize goodTk (putTk xs m) = u at *
    clear HE hg hk
    generalize (if u = true then putTk xs m else []) = R at *
    obtain ⟨ao, cap, rfl⟩ := h.form
    clear h h0
    go_enter Try.func74, Try.ntmps74
    go_wp2_with fail
    refine C.out.mono ?_
    rintro e w1 ⟨rfl, hb⟩
    have b1 := b0.below hb
    have c0 : w1.cell? ⟨w.heap.size, 0, none⟩ = some (.int .i64 m.pShown) := b1.2 0 _ rfl
    have c1 : w1.cell? ⟨w.heap.size, 1, none⟩ = some (.int .i64 m.pTrue) := b1.2 1 _ rfl
    have hC : Below w.heap.size w w1 := N0.trans (hb.mono N0.size)
    have hC2 := hC.alloc hC.size (.cells #[.int .i64 m.pShown, .int .i64 m.pTrue] 50)
    have CX := Lib.hid (CO.out _ w1.heap.size (hb.alloc hb.size (.cells #[.int .i64 m.pShown, .int .i64 m.pTrue] 50)) (Bx.new w1 (encClockMark m) 50))
    have hz9 := hC.size
    clear CO b1 hb
    go_wp2_with fail
    refine CX.out.mono ?_
    rintro e w2 ⟨v2, rfl, ho, hb2⟩
    have hC3 := hC2.trans (hb2.mono hC2.size)
    have HO := Lib.hid (ho.mono (L' := w.heap.size) hC2.size (Nat.le_refl _))
    obtain ⟨ao2, cap2, rfl⟩ := ho.form
    clear ho
    go_wp2
    go_ret2
    exact ⟨_, rfl, HO.out, hC3⟩
theorem specAddF (xs : List GClockMark) (v : Value) (m : GClockMark) (v2 : Value) (w : World) (B : Nat) (h : ClockMarkL w B v xs) (h2 : ClockMarkVL w B v2 m) (hB : B ≤ w.heap.size) (hn : szsClockMark xs ≤ 1048576) (_ : sz1ClockMark m ≤ 1048576) (_ : ∀ s ∈ xs, wfClockMark s) (_ : wfClockMark m) :
    Calls Try.prog 75 #[v, v2] w fun e w' => ∃ v', e = .returned (.tuple #[v', .bool (okAdd xs m)]) ∧ ClockMarkO w' w.heap.size w'.heap.size v' (resAdd xs m) ∧ Below w.heap.size w w' := specAdd xs m v v2 w B h h2 hB hn
theorem implAddF (xs : List GClockMark) (v : Value) (m : GClockMark) (v2 : Value) (w : World) (B : Nat) (h : ClockMarkL w B v xs) (h2 : ClockMarkVL w B v2 m) (hB : B ≤ w.heap.size) (hn : szsClockMark xs ≤ 1048576) (_ : sz1ClockMark m ≤ 1048576) (_ : ∀ s ∈ xs, wfClockMark s) (_ : wfClockMark m) :
    Calls Try.prog 74 #[v, v2] w fun e w' => ∃ v', e = .returned (.tuple #[v', .bool (okAdd xs m)]) ∧ ClockMarkO w' w.heap.size w'.heap.size v' (resAdd xs m) ∧ Below w.heap.size w w' := implAdd xs m v v2 w B h h2 hB hn
theorem resAdd_len (xs : List GClockMark) (m : GClockMark) (_ : szsClockMark xs ≤ 1048576) : szsClockMark (resAdd xs m) ≤ 1048576 := by
  rw [szsClockMark_split]
  unfold resAdd
  split
  · rename_i h
    unfold okAdd at h
    rw [Bool.and_eq_true] at h
    have := (goodTk_yes h.2).1.2
    omega
  · simp
end Go.Proofs.Ytklilfbokpljkac
