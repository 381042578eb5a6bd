/- Picks: CurrentPicks of the program. -/
import Derived.Test.YtklilfbokpljkaaPqV
import Derived.Test.YtklilfbokpljkaaPqU
namespace Go.Proofs.Ytklilfbokpljkaa
open Go.ChangeShapes Go.WideShapes Go.ChangeAt Go.RowKit Go.ChangeMaps Go.Sort Go.Shelf
set_option linter.unusedSimpArgs false
set_option linter.unusedVariables false

set_option maxRecDepth 100000 in
set_option maxHeartbeats 4000000 in
theorem implCurP (xs : List GPick) (v : Value) (w : World) (B : Nat) (h : PickL w B v xs) (hB : B ≤ w.heap.size) (hn : szsPick xs ≤ 1048576) (hw : ∀ s ∈ xs, wfPick s) :
    Calls Try.prog 87 #[v] w fun e w' => ∃ v', e = .returned (.tuple #[v', .bool (goodP xs)]) ∧ Own (Value.int .i64) w' w.heap.size w'.heap.size v' (resCur xs) ∧ Below w.heap.size w w' := by
  have hl := Nat.le_trans (szsPick_len xs) hn
  cases hg : goodP xs with
  | false =>
    have C := Lib.hid (implGoodP xs v false w B h hB hl hg)
    rw [resCur_no hg]
    clear hg
    obtain ⟨ao, cap, rfl⟩ := h.form
    go_enter Try.func87, Try.ntmps87
    go_wp2_with fail
    refine C.out.mono ?_
    rintro e w1 ⟨rfl, hb⟩
    go_wp2
    go_ret2
    exact ⟨_, rfl, own_empty w1 3 hb.size, hb.alloc hb.size _⟩
  | true =>
  have C := Lib.hid (implGoodP xs v true w B h hB hl hg)
  have hok := goodP_yes hg
  have hl12 := Nat.le_trans (curL_len xs) hok.1
  have HAS := Lib.hid (show ascI (curL xs) from ids_cur hok)
  generalize hres : resCur xs = res
  have HRES : Hid (res = (ordL (curL xs)).map fun p => p.pId) := Lib.hid (hres.symm.trans (resCur_yes hg))
  have HL := Lib.hid h
  obtain ⟨ao, cap, rfl⟩ := h.form
  clear hres hok hg h
  generalize hcl : curL xs = cl at *
  have HCL0 := Lib.hid hcl
  clear hcl
  obtain ⟨tj, hj, hy0, hy1, hy2⟩ := info_parts infoInt
  go_enter Try.func87, Try.ntmps87
  go_wp2_with fail
  refine C.out.mono ?_
  rintro e w1 ⟨rfl, hb⟩
  have z1 := hb.size
  go_wp2_with fail
  refine (implCurOf xs _ w1 B (HL.out.below (hb.mono hB)) (Nat.le_trans hB z1) hl).mono ?_
  rintro e w3 ⟨v3, rfl, ho, hb3⟩
  rw [HCL0.out] at ho
  have C3 := hb.trans (hb3.mono z1)
  have z3 := hb3.size
  clear hb hb3 C
  by_cases hne : cl = []
  case pos =>
    subst hne
    obtain ⟨ao3, cap3, e3, _, _, hnn3, _⟩ := _root_.id ho
    subst e3
    have E3 : res = [] := by rw [HRES.out, show ordL ([] : List GPick) = [] from List.eq_nil_of_length_eq_zero (by rw [(ordL_perm []).length_eq]; rfl)]; rfl
    subst E3
    have SN := Lib.hid (fun fv => AnyF.slices_SortFunc_none Try.sortK_154 ao3 cap3 fv w3)
    go_wp2_with fail
    refine (SN.out _).mono ?_
    rintro e w4 ⟨rfl, rfl⟩
    have hrO := own_empty (en := Value.int .i64) w4 3 C3.size
    have C4 := C3.alloc C3.size (.cells #[] 3)
    generalize hw5 : w4.alloc (.cells #[] 3) = w5 at *
    clear SN ho HL
    go_wp2
    go_loopw [5, 19] (fun o i wr => o = .slice (some ⟨w4.heap.size, 0, none⟩) 0 0 ∧ i = .int .i64 0 ∧ wr = w5)
      (fun _ _ _ => 0)
    case atStart => exact ⟨rfl, rfl, rfl⟩
    case round =>
      obtain ⟨rfl, rfl, rfl⟩ := hrel
      go_wp2
      go_ret2
      exact ⟨_, rfl, hrO, C4⟩
  obtain ⟨ao3, cap3, e3, hle3, hmax3, _, h3⟩ := _root_.id ho
  obtain ⟨s0, hs0⟩ := get_of_lt (l := cl) (k := 0) (List.length_pos_iff.2 hne)
  obtain ⟨g, off, e4, -⟩ := h3 0 s0 hs0
  subst e4
  subst e3
  clear h3 hs0
  unfold maxLen at hmax3
  have hpos := List.length_pos_iff.2 hne
  have SN := Lib.hid (sortCur hne hl12 HAS.out ho)
  go_wp2_with fail
  refine SN.out.mono ?_
  rintro e w4 ⟨rfl, hb4, ⟨hg1, hg2⟩, hcl⟩
  have C4 := C3.trans (hb4.mono (by omega))
  have HCL := Lib.hid hcl
  have z4 := hb4.size
  clear SN ho hcl C3
  have hrO := row_empty w4 (base := w4.heap.size) 3 1 (Nat.le_refl _)
  have hgk0 : (w4.alloc (.cells #[] 3)).heap[g]? = w4.heap[g]? := ((Below.refl w4.heap.size w4).alloc (Nat.le_refl _) (.cells #[] 3)).block g (by omega)
  have hnl2 := (ordL_perm cl).length_eq
  generalize ordL cl = nl at *
  have HNL := Lib.hid hnl2
  clear hnl2
  go_wp2
  go_loopw [5, 19] (fun o i wr => ∃ (q : Nat) (v : Value) (il : List Int), q ≤ cl.length ∧ i = .int .i64 q ∧ o = v ∧ Hid (il = (nl.take q).map fun s => s.pId) ∧ wr.ownsRow w4.heap.size 3 1 v q (il.map (Value.int .i64)) ∧ (∃ ao cap, v = .slice ao q cap) ∧ wr.heap[g]? = w4.heap[g]? ∧ w4.heap.size ≤ wr.heap.size ∧ Below w.heap.size w wr)
    (fun _ i _ => cl.length - (intOf i).toNat)
  case atStart => exact ⟨0, _, [], Nat.zero_le _, rfl, rfl, Lib.hid (by simp), hrO, ⟨_, _, rfl⟩, hgk0, by simp, C4.alloc C4.size _⟩
  case round =>
    obtain ⟨q, _, il, hq, rfl, rfl, HIL, hrow2, ⟨oa, oc, rfl⟩, hgk, hsz2, hbl2⟩ := hrel
    by_cases hlt2 : q < cl.length
    case neg =>
      obtain rfl : q = cl.length := by omega
      have E3 : il = res := by rw [HIL.out, HRES.out, List.take_of_length_le (by rw [HNL.out]; omega)]
      subst E3
      go_wp2
      go_ret2
      exact ⟨_, rfl, (Own.of_row hrow2).mono C4.size (Nat.le_refl _), hbl2⟩
    have hq1 : (q : Int) < (cl.length : Int) := by omega
    have hq0 : (0 : Int) ≤ (q : Int) := by omega
    obtain ⟨t, ht⟩ := get_of_lt (l := nl) (k := q) (by rw [HNL.out]; omega)
    have tc := HCL.out q t ht
    have t0 : wr.cell? ⟨g, off + q * 7, none⟩ = some (.int .i64 t.pId) := (cell_same hgk _).trans (tc 0 _ rfl)
    have t1 : wr.cell? ⟨g, off + q * 7 + 1, none⟩ = some (.int .i64 t.pStation) := (cell_same hgk _).trans (tc 1 _ rfl)
    have t2 : wr.cell? ⟨g, off + q * 7 + 2, none⟩ = some (.int .i64 t.pWave) := (cell_same hgk _).trans (tc 2 _ rfl)
    have t3 : wr.cell? ⟨g, off + q * 7 + 3, none⟩ = some (.int .i64 t.pTick) := (cell_same hgk _).trans (tc 3 _ rfl)
    have t4 : wr.cell? ⟨g, off + q * 7 + 4, none⟩ = some (.int .i64 t.pError) := (cell_same hgk _).trans (tc 4 _ rfl)
    have t5 : wr.cell? ⟨g, off + q * 7 + 5, none⟩ = some (.int .i64 t.pBy) := (cell_same hgk _).trans (tc 5 _ rfl)
    have t6 : wr.cell? ⟨g, off + q * 7 + 6, none⟩ = some (.int .i64 t.pAfter) := (cell_same hgk _).trans (tc 6 _ rfl)
    have HIL2 : Hid (il ++ [t.pId] = (nl.take (q + 1)).map fun s => s.pId) := Lib.hid (by rw [take_snoc ht, List.map_append, ← HIL.out]; rfl)
    clear ht tc HIL
    go_wp2_with (at_builtin; refine wpList_append_srcK _ rfl _ _ 43 rfl (w4.heap.size) 3 tj (.int .i64 0) 1 8 Try.underlying43 hj hy0 hy1 hy2 rfl (by decide) _ q (il.map (Value.int .i64)) rfl ((hrow2.alloc _).alloc _) _ 1 [.int .i64 t.pId] rfl (srcK_box (Bx.new1 wr (.cells #[.int .i64 t.pId, .int .i64 t.pStation, .int .i64 t.pWave, .int .i64 t.pTick, .int .i64 t.pError, .int .i64 t.pBy, .int .i64 t.pAfter] 76) [.int .i64 t.pId] 3) (by simp [Value.oneCell'])) (by unfold maxLen; omega) (by omega) (by first | omega | (simp; done) | (simp; omega)) ?_; intro v' w5 hown' hgrow hat)
    have bA := (Below.refl w4.heap.size wr).alloc hsz2 (.cells #[.int .i64 t.pId, .int .i64 t.pStation, .int .i64 t.pWave, .int .i64 t.pTick, .int .i64 t.pError, .int .i64 t.pBy, .int .i64 t.pAfter] 76)
    have b5 := bA.trans (below_app2 (hrow2.alloc (.cells #[.int .i64 t.pId, .int .i64 t.pStation, .int .i64 t.pWave, .int .i64 t.pTick, .int .i64 t.pError, .int .i64 t.pBy, .int .i64 t.pAfter] 76)) hgrow (Nat.le_trans hsz2 bA.size) (Nat.le_refl _))
    have hrow3 : w5.ownsRow w4.heap.size 3 1 v' (q + 1) ((il ++ [t.pId]).map (Value.int .i64)) := by simpa using hown'
    have hs3 := hgrow.size
    have hs4 : wr.heap.size + 2 ≤ w5.heap.size := by simpa using hs3
    have hgk3 : w5.heap[g]? = w4.heap[g]? := by
      have q1 := hgrow.block g (by simp; omega) (fun e => by have := (hrow2.lt g e.symm).1; omega)
      have q2 := (((Below.refl wr.heap.size wr).alloc (Nat.le_refl _) (.cells #[.int .i64 t.pId, .int .i64 t.pStation, .int .i64 t.pWave, .int .i64 t.pTick, .int .i64 t.pError, .int .i64 t.pBy, .int .i64 t.pAfter] 76)).alloc (by first | omega | (simp; done) | (simp; omega)) (.cells #[.int .i64 t.pId] 3)).block g (by omega)
      exact (q1.trans q2).trans hgk
    obtain ⟨a3, c3, rfl⟩ := row_form hrow3
    clear hown' hgrow hat
    go_wp2
    go_roundw
    case rel => exact ⟨q + 1, _, _, by omega, by go_num, rfl, HIL2, hrow3, ⟨_, _, rfl⟩, hgk3, by omega, hbl2.trans (b5.mono C4.size)⟩
    case measure => simp [intOf]; omega
theorem resCur_lenS (xs : List GPick) (hn : szsPick xs ≤ 1048576) : (resCur xs).length ≤ 1048576 := Nat.le_trans (resCur_len xs) (Nat.le_trans (szsPick_len xs) hn)
end Go.Proofs.Ytklilfbokpljkaa
