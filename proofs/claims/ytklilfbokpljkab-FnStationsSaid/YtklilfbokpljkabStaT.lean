/- The nearest stations: the program. -/
import Derived.Test.YtklilfbokpljkabStaP
namespace Go.Proofs.Ytklilfbokpljkab
open Go.ChangeShapes Go.WideShapes Go.ChangeAt Go.RowKit Go.ChangeMaps Go.Sort
set_option linter.unusedSimpArgs false
set_option linter.unusedVariables false

set_option maxRecDepth 100000 in
set_option maxHeartbeats 2000000 in
theorem implNear (xs : List GStation) (v : Value) (x y c : Int) (w : World) (B : Nat) (h : StationL w B v xs) (hB : B ≤ w.heap.size) (hn : szsStation xs ≤ 1048576) (hw : ∀ s ∈ xs, wfStation s) (_ : I64 x) (_ : I64 y) (_ : I64 c) :
    Calls Try.prog 57 #[v, .int .i64 x, .int .i64 y, .int .i64 c] w fun e w' => ∃ v', e = .returned (.tuple #[v', .bool (okNear xs x y c)]) ∧ Own (Value.int .i64) w' w.heap.size w'.heap.size v' (resNear xs x y c) ∧ Below w.heap.size w w' := by
  have N2 : Below w.heap.size w ((w.alloc (.cells #[.int .i64 x] 3)).alloc (.cells #[.int .i64 y] 3)) := ((Below.refl w.heap.size w).alloc (Nat.le_refl _) _).alloc (by first | omega | (simp; done) | (simp; omega)) _
  have bx := (Bx.new w [.int .i64 x] 3).alloc (.cells #[.int .i64 y] 3)
  have bY := Bx.new1 w (.cells #[.int .i64 x] 3) [.int .i64 y] 3
  have h1 := h.below (N2.mono hB)
  generalize hok : okNear xs x y c = ok
  generalize hres : resNear xs x y c = res
  have HK := Lib.hid hok
  have HR := Lib.hid hres
  clear hok hres
  by_cases hg : goodL xs = true
  case neg =>
    have C := Lib.hid (implAreV xs v _ B h1 (Nat.le_trans hB N2.size) hn hw false (bool_f hg))
    obtain ⟨e1, e2⟩ := okNear_no (x := x) (y := y) (c := c) (fun h => hg h.1)
    have E1 := HK.out.symm.trans e1
    have E2 := HR.out.symm.trans e2
    subst E1 E2
    obtain ⟨ao, cap, rfl, -⟩ := h
    clear hg e1 e2
    go_enter Try.func57, Try.ntmps57
    go_wp2_with fail
    refine C.out.mono ?_
    rintro e w1 ⟨rfl, hb⟩
    have C1 := N2.trans (hb.mono N2.size)
    go_wp2
    go_ret2
    exact ⟨_, rfl, own_empty w1 3 C1.size, C1.alloc C1.size _⟩
  have C := Lib.hid (implAreV xs v _ B h1 (Nat.le_trans hB N2.size) hn hw true hg)
  by_cases hp : plcB x y = true
  case neg =>
    have HP := Lib.hid (bool_f hp)
    obtain ⟨e1, e2⟩ := okNear_no (xs := xs) (c := c) (fun h => hp h.2.1)
    have E1 := HK.out.symm.trans e1
    have E2 := HR.out.symm.trans e2
    subst E1 E2
    obtain ⟨ao, cap, rfl, -⟩ := h
    clear hg hp e1 e2
    go_enter Try.func57, Try.ntmps57
    go_wp2_with fail
    refine C.out.mono ?_
    rintro e w1 ⟨rfl, hb⟩
    have C1 := N2.trans (hb.mono N2.size)
    have q0 := (bx.below hb).2 0 _ rfl
    have q1 := (bY.below hb).2 0 _ rfl
    go_wp2_with fail
    refine (implPlace _ _ false _ HP.out).mono ?_
    rintro e w2 ⟨rfl, rfl⟩
    go_wp2
    go_ret2
    exact ⟨_, rfl, own_empty w1 3 C1.size, C1.alloc C1.size _⟩
  have HP := Lib.hid hp
  by_cases hcc : inB c 1 10 = true
  case neg =>
    obtain ⟨e1, e2⟩ := okNear_no (xs := xs) (x := x) (y := y) (fun h => hcc h.2.2)
    have E1 := HK.out.symm.trans e1
    have E2 := HR.out.symm.trans e2
    subst E1 E2
    obtain ⟨ao, cap, rfl, -⟩ := h
    have hcc2 : ¬ (1 ≤ c ∧ c ≤ 10) := fun h => hcc (inB_iff.2 h)
    clear hg hp hcc e1 e2
    go_enter Try.func57, Try.ntmps57
    go_wp2_with fail
    refine C.out.mono ?_
    rintro e w1 ⟨rfl, hb⟩
    have C1 := N2.trans (hb.mono N2.size)
    have q0 := (bx.below hb).2 0 _ rfl
    have q1 := (bY.below hb).2 0 _ rfl
    go_wp2_with fail
    refine (implPlace _ _ true _ HP.out).mono ?_
    rintro e w2 ⟨rfl, rfl⟩
    by_cases hlo : c < 1
    · go_wp2
      go_ret2
      exact ⟨_, rfl, own_empty w1 3 C1.size, C1.alloc C1.size _⟩
    · have hhi : 10 < c := by omega
      go_wp2
      go_ret2
      exact ⟨_, rfl, own_empty w1 3 C1.size, C1.alloc C1.size _⟩
  have hlen := goodL_len hg
  obtain ⟨e1, e2⟩ := okNear_yes ⟨hg, hp, hcc⟩
  have E1 := HK.out.symm.trans e1
  subst E1
  have HGL := Lib.hid hg
  have hpl : (0 ≤ x ∧ x ≤ 999) ∧ 0 ≤ y ∧ y ≤ 999 := by
    unfold plcB at hp
    rw [Bool.and_eq_true] at hp
    exact ⟨inB_iff.1 hp.1, inB_iff.1 hp.2⟩
  obtain ⟨hx, hy⟩ := hpl
  obtain ⟨hc1, hc10⟩ := inB_iff.1 hcc
  obtain ⟨n, rfl⟩ : ∃ n : Nat, c = (n : Int) := ⟨c.toNat, by omega⟩
  have E2 : Hid (res = ((nearL x y xs).take n).map fun s => s.pId) := Lib.hid (by have := HR.out.symm.trans e2; rwa [Int.toNat_natCast] at this)
  clear hg hp hcc e1 e2 h1 HR
  have HL := Lib.hid h
  obtain ⟨ao, cap, rfl, hcap, hmax, hnn, hc⟩ := h
  unfold maxLen at hmax
  clear hc hnn
  have hnl : Hid ((nearL x y xs).length = xs.length) := Lib.hid (nearL_perm x y xs).length_eq
  obtain ⟨tj, hj, hy0, hy1, hy2⟩ := info_parts infoInt
  go_enter Try.func57, Try.ntmps57
  go_wp2_with fail
  refine C.out.mono ?_
  rintro e w1 ⟨rfl, hb⟩
  have C1 := N2.trans (hb.mono N2.size)
  have q0 := (bx.below hb).2 0 _ rfl
  have q1 := (bY.below hb).2 0 _ rfl
  have z1 : w.heap.size + 2 ≤ w1.heap.size := by have := hb.size; simpa using this
  clear hb bx bY N2 C
  go_wp2_with fail
  refine (implPlace _ _ true _ HP.out).mono ?_
  rintro e w2 ⟨rfl, rfl⟩
  go_wp2_with fail
  refine (cloneStation xs _ _ B (HL.out.below (C1.mono hB)) (Nat.le_trans hB C1.size) (by omega)).mono ?_
  rintro e w3 ⟨v3, rfl, ho, hb3⟩
  have C3 := C1.trans (hb3.mono C1.size)
  have z3 := hb3.size
  have r0 := cellOf hb3 (cell_of_lt q0) q0
  have r1 := cellOf hb3 (cell_of_lt q1) q1
  clear q0 q1 hb3
  by_cases hne : xs = []
  case pos =>
    subst hne
    obtain ⟨ao3, cap3, e3, _, _, hnn3, _⟩ := _root_.id ho
    subst e3
    have E3 : res = [] := by
      rw [E2.out, show nearL x y [] = [] from List.eq_nil_of_length_eq_zero hnl.out]
      simp
    subst E3
    have SN := Lib.hid (fun fv => AnyF.slices_SortFunc_none Try.sortK_99 ao3 cap3 fv w3)
    go_wp2_with fail
    refine (SN.out _).mono ?_
    rintro e w4 ⟨rfl, rfl⟩
    have hm : min (n : Int) 0 = 0 := by omega
    have hrO := own_empty (en := Value.int .i64) w4 3 C3.size
    have C4 := C3.alloc C3.size (.cells #[] 3)
    generalize hw5 : w4.alloc (.cells #[] 3) = w5 at *
    clear SN ho HL
    cases ao3 with
    | none =>
      obtain rfl := hnn3 rfl
      go_wp2
      go_loopw [11, 45] (fun o i wr => o = .slice (some ⟨w4.heap.size, 0, none⟩) 0 0 ∧ i = .int .i64 0 ∧ wr = w5)
        (fun _ _ _ => 0)
      case atStart => exact ⟨rfl, rfl, rfl⟩
      case round =>
        obtain ⟨rfl, rfl, rfl⟩ := hrel
        go_wp2
        go_ret2
        exact ⟨_, rfl, hrO, C4⟩
    | some a =>
      go_wp2
      go_loopw [11, 45] (fun o i wr => o = .slice (some ⟨w4.heap.size, 0, none⟩) 0 0 ∧ i = .int .i64 0 ∧ wr = w5)
        (fun _ _ _ => 0)
      case atStart => exact ⟨rfl, rfl, rfl⟩
      case round =>
        obtain ⟨rfl, rfl, rfl⟩ := hrel
        go_wp2
        go_ret2
        exact ⟨_, rfl, hrO, C4⟩
  obtain ⟨ao3, cap3, e3, hle3, hmax3, _, h3⟩ := _root_.id ho
  obtain ⟨s0, hs0⟩ := get_of_lt (l := xs) (k := 0) (List.length_pos_iff.2 hne)
  obtain ⟨g, off, e4, -⟩ := h3 0 s0 hs0
  subst e4
  subst e3
  clear h3 hs0
  unfold maxLen at hmax3
  have hpos := List.length_pos_iff.2 hne
  have SN := Lib.hid (sortNear hne hlen HGL.out hx hy ho (gx := w.heap.size) (gy := w.heap.size + 1) (by omega) (by omega) r0 r1)
  go_wp2_with fail
  refine SN.out.mono ?_
  rintro e w4 ⟨rfl, hb4, ⟨hg1, hg2⟩, hcl⟩
  have C4 := C3.trans (hb4.mono (by omega))
  have HCL := Lib.hid hcl
  have z4 := hb4.size
  clear SN ho r0 r1 hcl C1 C3
  obtain ⟨m, hm⟩ : ∃ m : Nat, min (n : Int) (xs.length : Int) = (m : Int) := ⟨min n xs.length, by omega⟩
  have hm1 : m ≤ n := by omega
  have hm2 : m ≤ xs.length := by omega
  have HE : Hid (res = ((nearL x y xs).take m).map fun s => s.pId) := Lib.hid (by
    rw [E2.out]
    by_cases e : m = n
    · rw [e]
    · rw [List.take_of_length_le (by rw [hnl.out]; omega), List.take_of_length_le (by rw [hnl.out]; omega)])
  have hmx : max (m : Int) 0 = (m : Int) := by omega
  have hrO := row_empty w4 (base := w4.heap.size) 3 1 (Nat.le_refl _)
  have hgk0 : (w4.alloc (.cells #[] 3)).heap[g]? = w4.heap[g]? := ((Below.refl w4.heap.size w4).alloc (Nat.le_refl _) (.cells #[] 3)).block g (by omega)
  have hnl2 := hnl.out
  generalize nearL x y xs = nl at *
  have HNL := Lib.hid hnl2
  clear hnl hnl2 E2
  go_wp2
  try simp only [hm, hmx, Int.toNat_natCast]
  go_loopw [11, 45] (fun o i wr => ∃ (q : Nat) (v : Value) (il : List Int), q ≤ m ∧ i = .int .i64 q ∧ o = v ∧ Hid (il = (nl.take q).map fun s => s.pId) ∧ wr.ownsRow w4.heap.size 3 1 v q (il.map (Value.int .i64)) ∧ (∃ ao cap, v = .slice ao q cap) ∧ wr.heap[g]? = w4.heap[g]? ∧ w4.heap.size ≤ wr.heap.size ∧ Below w.heap.size w wr)
    (fun _ i _ => m - (intOf i).toNat)
  case atStart => exact ⟨0, _, [], Nat.zero_le _, rfl, rfl, Lib.hid (by simp), hrO, ⟨_, _, rfl⟩, hgk0, by simp, C4.alloc C4.size _⟩
  case round =>
    obtain ⟨q, _, il, hq, rfl, rfl, HIL, hrow2, ⟨oa, oc, rfl⟩, hgk, hsz2, hbl2⟩ := hrel
    by_cases hlt2 : q < m
    case neg =>
      obtain rfl : q = m := by omega
      have E3 : il = res := by rw [HIL.out, HE.out]
      subst E3
      go_wp2
      go_ret2
      exact ⟨_, rfl, (Own.of_row hrow2).mono C4.size (Nat.le_refl _), hbl2⟩
    have hq1 : (q : Int) < (m : Int) := by omega
    have hq0 : (0 : Int) ≤ (q : Int) := by omega
    obtain ⟨t, ht⟩ := get_of_lt (l := nl) (k := q) (by rw [HNL.out]; omega)
    have tc := HCL.out q t ht
    have t0 : wr.cell? ⟨g, off + q * 8, none⟩ = some (.int .i64 t.pId) := (cell_same hgk _).trans (tc 0 _ rfl)
    have t1 : wr.cell? ⟨g, off + q * 8 + 1, none⟩ = some (.string t.pName) := (cell_same hgk _).trans (tc 1 _ rfl)
    have t2 : wr.cell? ⟨g, off + q * 8 + 2, none⟩ = some (.int .i64 t.pX) := (cell_same hgk _).trans (tc 2 _ rfl)
    have t3 : wr.cell? ⟨g, off + q * 8 + 3, none⟩ = some (.int .i64 t.pY) := (cell_same hgk _).trans (tc 3 _ rfl)
    have t4 : wr.cell? ⟨g, off + q * 8 + 4, none⟩ = some (.int .i64 t.pGain) := (cell_same hgk _).trans (tc 4 _ rfl)
    have t5 : wr.cell? ⟨g, off + q * 8 + 5, none⟩ = some (.int .i64 t.pLow) := (cell_same hgk _).trans (tc 5 _ rfl)
    have t6 : wr.cell? ⟨g, off + q * 8 + 6, none⟩ = some (.int .i64 t.pHigh) := (cell_same hgk _).trans (tc 6 _ rfl)
    have t7 : wr.cell? ⟨g, off + q * 8 + 7, none⟩ = some (.int .i64 t.pUntil) := (cell_same hgk _).trans (tc 7 _ rfl)
    have HIL2 : Hid (il ++ [t.pId] = (nl.take (q + 1)).map fun s => s.pId) := Lib.hid (by rw [take_snoc ht, List.map_append, ← HIL.out]; rfl)
    clear ht tc HIL
    go_wp2_with (at_builtin; refine wpList_append_srcK _ rfl _ _ 22 rfl (w4.heap.size) 3 tj (.int .i64 0) 1 8 Try.underlying22 hj hy0 hy1 hy2 rfl (by decide) _ q (il.map (Value.int .i64)) rfl ((hrow2.alloc _).alloc _) _ 1 [.int .i64 t.pId] rfl (srcK_box (Bx.new1 wr (.cells #[.int .i64 t.pId, .string t.pName, .int .i64 t.pX, .int .i64 t.pY, .int .i64 t.pGain, .int .i64 t.pLow, .int .i64 t.pHigh, .int .i64 t.pUntil] 60) [.int .i64 t.pId] 3) (by simp [Value.oneCell'])) (by unfold maxLen; omega) (by omega) (by first | omega | (simp; done) | (simp; omega)) ?_; intro v' w5 hown' hgrow hat)
    have bA := (Below.refl w4.heap.size wr).alloc hsz2 (.cells #[.int .i64 t.pId, .string t.pName, .int .i64 t.pX, .int .i64 t.pY, .int .i64 t.pGain, .int .i64 t.pLow, .int .i64 t.pHigh, .int .i64 t.pUntil] 60)
    have b5 := bA.trans (below_app2 (hrow2.alloc (.cells #[.int .i64 t.pId, .string t.pName, .int .i64 t.pX, .int .i64 t.pY, .int .i64 t.pGain, .int .i64 t.pLow, .int .i64 t.pHigh, .int .i64 t.pUntil] 60)) hgrow (Nat.le_trans hsz2 bA.size) (Nat.le_refl _))
    have hrow3 : w5.ownsRow w4.heap.size 3 1 v' (q + 1) ((il ++ [t.pId]).map (Value.int .i64)) := by simpa using hown'
    have hs3 := hgrow.size
    have hs4 : wr.heap.size + 2 ≤ w5.heap.size := by simpa using hs3
    have hgk3 : w5.heap[g]? = w4.heap[g]? := by
      have q1 := hgrow.block g (by simp; omega) (fun e => by have := (hrow2.lt g e.symm).1; omega)
      have q2 := (((Below.refl wr.heap.size wr).alloc (Nat.le_refl _) (.cells #[.int .i64 t.pId, .string t.pName, .int .i64 t.pX, .int .i64 t.pY, .int .i64 t.pGain, .int .i64 t.pLow, .int .i64 t.pHigh, .int .i64 t.pUntil] 60)).alloc (by first | omega | (simp; done) | (simp; omega)) (.cells #[.int .i64 t.pId] 3)).block g (by omega)
      exact (q1.trans q2).trans hgk
    obtain ⟨a3, c3, rfl⟩ := row_form hrow3
    clear hown' hgrow hat
    go_wp2
    go_roundw
    case rel => exact ⟨q + 1, _, _, by omega, by go_num, rfl, HIL2, hrow3, ⟨_, _, rfl⟩, hgk3, by omega, hbl2.trans (b5.mono C4.size)⟩
    case measure => simp [intOf]; omega
theorem resNear_len (xs : List GStation) (x y c : Int) (h : szsStation xs ≤ 1048576) : (resNear xs x y c).length ≤ 1048576 := by
  unfold resNear
  split
  · rename_i hk
    rw [List.length_map, List.length_take, (nearL_perm x y xs).length_eq]
    have := szsStation_len xs
    omega
  · simp
end Go.Proofs.Ytklilfbokpljkab
