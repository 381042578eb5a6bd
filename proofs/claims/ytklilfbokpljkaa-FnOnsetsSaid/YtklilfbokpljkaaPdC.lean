/- The specification's draws for the laws on picks. -/
import Derived.Test.YtklilfbokpljkaaPdB
namespace Go.Proofs.Ytklilfbokpljkaa
open Go.ChangeShapes Go.WideShapes Go.ChangeAt Go.RowKit Go.ChangeMaps
set_option linter.unusedSimpArgs false
set_option linter.unusedVariables false

/-- Picks that a draw gives. -/
structure DrPk (w w' : World) (v : Value) (xs : List GPick) : Prop where
  lst : PickL w' w'.heap.size v xs
  len : xs.length ≤ 20
  bd : ∀ s ∈ xs, BdK s
  below : Below w.heap.size w w'
theorem Pst.alloc {w0 w : World} {B b k : Nat} {v : Value} {xs : List GPick} (h : Pst w0 w B b k v xs) (o : Obj) : Pst w0 (w.alloc o) B b k v xs := h.below ((Below.refl _ w).alloc (Nat.le_refl _) o)
theorem Pst.drawn {w w' : World} {o : Obj} {B k : Nat} {v : Value} {xs : List GPick} (h : Pst (w.alloc o) w' B w.heap.size k v xs) (hl : xs.length ≤ 20) : DrPk w w' v xs := ⟨h.lst, hl, h.bd, grown_below h.gr⟩
set_option maxRecDepth 100000 in
set_option maxHeartbeats 2000000 in
theorem cur_onsetId (w0 w : World) (B b k g cap : Nat) (xs : List GPick) (hS : Pst w0 w B b k (.slice (some ⟨g, 0, none⟩) xs.length cap) xs) (hl : xs.length ≤ 20) (hk : k ≤ 600000) (hbw : b < w0.heap.size) :
    Calls Try.prog 184 #[.pointer (some ⟨b, 0, none⟩), .slice (some ⟨g, 0, none⟩) xs.length cap] w fun e w' => ∃ x : Int, e = .returned (.int .i64 x) ∧ (-2000000 ≤ x ∧ x ≤ 2000000) ∧ Pst w0 w' B b (k + 10) (.slice (some ⟨g, 0, none⟩) xs.length cap) xs := by
  have HS := Lib.hid hS
  have z0 := hS.cur.lt
  have zg := hS.gr.size
  clear hS
  by_cases h0 : xs.length = 0
  · have HL := Lib.hid h0
    have h1 : (xs.length : Int) = 0 := by omega
    clear h0
    go_enter Try.func184, Try.ntmps184
    go_wp2_with fail
    refine (cur_among _ B b _ (HS.out.cur.alloc _) (by omega) _ _ (ints_lit w b z0 3 3 [0, 1, 500]) (by simp) (by simp)).mono ?_
    rintro e w1 ⟨x, rfl, hx, hc1, hg1⟩
    have hx2 : -2000000 ≤ x ∧ x ≤ 2000000 := by
      revert x
      decide
    have HS1 := Lib.hid ((HS.out.alloc _).draw hbw hg1 hc1)
    clear HS hc1 hg1 hx
    go_wp2
    go_ret
    exact ⟨x, rfl, hx2, HS1.out.mono (by omega)⟩
  · have h1 : ¬ (xs.length : Int) = 0 := by omega
    have h2 : (1 : Int) ≤ (xs.length : Int) := by omega
    have h3 : (xs.length : Int) ≤ 20 := by omega
    go_enter Try.func184, Try.ntmps184
    go_wp2_with fail
    refine (cur_one _ B b _ 10 HS.out.cur (by omega) (by omega) (by omega)).mono ?_
    rintro e w1 ⟨yes, rfl, hc1, hg1⟩
    have HS1 := Lib.hid (HS.out.draw hbw hg1 hc1)
    have z1 := hc1.lt
    clear HS hc1 hg1
    cases yes with
    | true =>
      go_wp2_with fail
      refine (cur_among _ B b _ (HS1.out.cur.alloc _) (by omega) _ _ (ints_lit w1 b z1 3 3 [0, 1, 500]) (by simp) (by simp)).mono ?_
      rintro e w2 ⟨x, rfl, hx, hc2, hg2⟩
      have hx2 : -2000000 ≤ x ∧ x ≤ 2000000 := by
        revert x
        decide
      have HS2 := Lib.hid ((HS1.out.alloc _).draw hbw hg2 hc2)
      clear HS1 hc2 hg2 hx
      go_wp2
      go_ret
      exact ⟨x, rfl, hx2, HS2.out.mono (by omega)⟩
    | false =>
      go_wp2_with fail
      refine (cur_pick _ B b _ (xs.length : Int) HS1.out.cur (by omega) (by omega) (by omega)).mono ?_
      rintro e w2 ⟨r, rfl, hr0, hr1, hc2, hg2⟩
      have HS2 := Lib.hid (HS1.out.draw hbw hg2 hc2)
      clear HS1 hc2 hg2
      obtain ⟨q, rfl⟩ : ∃ q : Nat, r = q := ⟨r.toNat, by omega⟩
      obtain ⟨t, ht⟩ := get_of_lt (l := xs) (k := q) (by omega)
      have hbt := (HS2.out.bd t (List.mem_of_getElem? ht)).1
      obtain ⟨ao, cap9, e9, -, -, -, hcc⟩ := HS2.out.lst
      simp only [Value.slice.injEq, true_and] at e9
      obtain ⟨rfl, rfl⟩ := e9
      obtain ⟨g9, off9, e10, -, hcell⟩ := hcc q t ht
      simp only [Option.some.injEq, Addr.mk.injEq, and_true] at e10
      obtain ⟨rfl, rfl⟩ := e10
      have t0 : w2.cell? ⟨g, q * 7, none⟩ = some (.int .i64 t.pId) := by have := hcell 0 _ rfl; simpa using this
      clear hcell hcc
      go_wp2
      go_ret
      exact ⟨t.pId, rfl, hbt, HS2.out.mono (by omega)⟩
set_option maxRecDepth 100000 in
set_option maxHeartbeats 1000000 in
theorem drawArePk (w : World) (B : Nat) (v : Value) (h : CodeArg w B v) :
    Calls Try.prog 160 #[v] w fun e w' => ∃ (v' : Value) (xs : List GPick), e = .returned v' ∧ DrPk w w' v' xs := by
  obtain ⟨h0, ao, n, cap, rfl, h2, h3⟩ := h
  have hcu := cur_new w B ao n cap h0 h2 h3
  go_enter Try.func160, Try.ntmps160
  go_wp2_with fail
  refine (cur_onsets _ B w.heap.size 0 hcu (by omega)).mono ?_
  rintro e w1 ⟨v1, xs, rfl, hl, hS⟩
  have HS := Lib.hid hS
  obtain ⟨g1, cap1, rfl⟩ := hS.form
  clear hS
  go_wp2
  go_ret
  exact ⟨_, xs, rfl, HS.out.drawn hl⟩
set_option maxRecDepth 100000 in
theorem drawRevisions (w : World) (B : Nat) (v : Value) (h : CodeArg w B v) :
    Calls Try.prog 92 #[v] w fun e w' => ∃ (v' : Value) (xs : List GPick), e = .returned v' ∧ DrPk w w' v' xs := by
  have C := Lib.hid (drawArePk w B v h)
  obtain ⟨h0, ao, n, cap, rfl, h2, h3⟩ := h
  clear h3
  go_enter Try.func92, Try.ntmps92
  go_wp2_with fail
  refine C.out.mono ?_
  rintro e w1 ⟨v1, xs, rfl, hD⟩
  have HD := Lib.hid hD
  obtain ⟨a1, c1, rfl⟩ := hD.lst.form
  clear hD
  go_wp2
  go_ret
  exact ⟨_, xs, rfl, HD.out⟩
set_option maxRecDepth 100000 in
set_option maxHeartbeats 2000000 in
theorem drawHistoryOf (w : World) (B : Nat) (v : Value) (h : CodeArg w B v) :
    Calls Try.prog 159 #[v] w fun e w' => ∃ (v' : Value) (xs : List GPick) (i : Int), e = .returned (.tuple #[v', .int .i64 i]) ∧ (-2000000 ≤ i ∧ i ≤ 2000000) ∧ DrPk w w' v' xs := by
  obtain ⟨h0, ao, n, cap, rfl, h2, h3⟩ := h
  have hcu := cur_new w B ao n cap h0 h2 h3
  have hbw : w.heap.size < (w.alloc (.cells #[.slice ao n cap, .int .i64 0, .int .u64 0] 101)).heap.size := by simp
  clear h3
  go_enter Try.func159, Try.ntmps159
  go_wp2_with fail
  refine (cur_onsets _ B w.heap.size 0 hcu (by omega)).mono ?_
  rintro e w1 ⟨v1, xs, rfl, hl, hS⟩
  obtain ⟨g1, cap1, rfl⟩ := hS.form
  have HS1 := Lib.hid hS
  clear hS hcu
  go_wp2_with fail
  refine (cur_onsetId _ _ B w.heap.size _ g1 cap1 xs HS1.out hl (by omega) hbw).mono ?_
  rintro e w2 ⟨i, rfl, hbi, hS⟩
  have HS2 := Lib.hid hS
  clear HS1 hS
  go_wp2
  go_ret2
  exact ⟨_, xs, i, rfl, hbi, HS2.out.drawn hl⟩
set_option maxRecDepth 100000 in
theorem drawWindowOf (w : World) (B : Nat) (v : Value) (h : CodeArg w B v) :
    Calls Try.prog 90 #[v] w fun e w' => ∃ (v' : Value) (xs : List GPick) (i : Int), e = .returned (.tuple #[v', .int .i64 i]) ∧ (-2000000 ≤ i ∧ i ≤ 2000000) ∧ DrPk w w' v' xs := by
  have C := Lib.hid (drawHistoryOf w B v h)
  obtain ⟨h0, ao, n, cap, rfl, h2, h3⟩ := h
  clear h3
  go_enter Try.func90, Try.ntmps90
  go_wp2_with fail
  refine C.out.mono ?_
  rintro e w1 ⟨v1, xs, i, rfl, hi, hD⟩
  have HD := Lib.hid hD
  obtain ⟨a1, c1, rfl⟩ := hD.lst.form
  clear hD
  go_wp2
  go_ret2
  exact ⟨_, xs, i, rfl, hi, HD.out⟩
set_option maxRecDepth 100000 in
set_option maxHeartbeats 2000000 in
theorem drawPairedPicks (w : World) (B : Nat) (v : Value) (h : CodeArg w B v) :
    Calls Try.prog 83 #[v] w fun e w' => ∃ (v' : Value) (xs : List GPick) (c : Int), e = .returned (.tuple #[v', .int .i64 c]) ∧ (-2000000 ≤ c ∧ c ≤ 2000000) ∧ DrPk w w' v' xs := by
  obtain ⟨h0, ao, n, cap, rfl, h2, h3⟩ := h
  have hcu := cur_new w B ao n cap h0 h2 h3
  have hbw : w.heap.size < (w.alloc (.cells #[.slice ao n cap, .int .i64 0, .int .u64 0] 101)).heap.size := by simp
  clear h3
  go_enter Try.func83, Try.ntmps83
  go_wp2_with fail
  refine (cur_onsets _ B w.heap.size 0 hcu (by omega)).mono ?_
  rintro e w1 ⟨v1, xs, rfl, hl, hS⟩
  obtain ⟨g1, cap1, rfl⟩ := hS.form
  have HS1 := Lib.hid hS
  clear hS hcu
  have y1 := HS1.out.cur.lt
  go_wp2_with fail
  refine (cur_pick _ B w.heap.size _ 24 (HS1.out.cur.alloc _) (by omega) (by omega) (by omega)).mono ?_
  rintro e w2 ⟨r1, rfl, hr0, hr1, hc, hg⟩
  have hl1 := (ints_lit w1 w.heap.size y1 3 6 [1, 1, 2, 99, 0, 100]).grown hg
  have HS2 := Lib.hid ((HS1.out.alloc _).draw hbw hg hc)
  obtain ⟨q1, hq, hq2⟩ : ∃ q : Nat, r1.tdiv 11 = q ∧ q ≤ 2 := ⟨(r1 / 11).toNat, by rw [Int.tdiv_eq_ediv_of_nonneg hr0]; omega, by omega⟩
  clear HS1 hc hg
  go_wp2_with fail
  refine (cur_among _ B w.heap.size _ HS2.out.cur (by omega) _ _ (hl1.take (4 + q1) (by simp; omega)) (by simp; omega) (by simp; omega)).mono ?_
  rintro e w3 ⟨c, rfl, hx9, hc, hg⟩
  have hbc : -2000000 ≤ c ∧ c ≤ 2000000 := mem_take_all (P := fun x => -2000000 ≤ x ∧ x ≤ 2000000) (by decide) hx9
  have HS3 := Lib.hid (HS2.out.draw hbw hg hc)
  clear HS2 hc hg hq hx9 hl1 hr0 hr1 hq2
  go_wp2
  go_ret2
  exact ⟨_, xs, c, rfl, hbc, HS3.out.drawn hl⟩
theorem cur_new1P (w : World) (o : Obj) (B : Nat) (ao : Option Addr) (n cap : Nat) (hB : B ≤ w.heap.size) (hn : n ≤ 65536) (hc : Code w B ao n) :
    Cur ((w.alloc o).alloc (.cells #[.slice ao n cap, .int .i64 0, .int .u64 0] 101)) B (w.heap.size + 1) 0 := by
  have h := cur_new (w.alloc o) B ao n cap (by simp; omega) hn (hc.keep fun bb o' hbb => ((Below.refl B w).alloc hB o).cell (p := ⟨bb, o', none⟩) hbb)
  rwa [World.size_alloc] at h
end Go.Proofs.Ytklilfbokpljkaa
