/- The specification's draws for the laws on models. -/
import Derived.Test.YtklilfbokpljkaaEdB
namespace Go.Proofs.Ytklilfbokpljkaa
open Go.ChangeShapes Go.WideShapes Go.ChangeAt Go.RowKit Go.ChangeMaps
set_option linter.unusedSimpArgs false
set_option linter.unusedVariables false
set_option linter.unusedSimpArgs false
set_option linter.unusedVariables false

/-- A model that a draw gives. -/
structure DrMd (w w' : World) (v : Value) (xs : List GEarth) : Prop where
  lst : EarthL w' w'.heap.size v xs
  len : xs.length ≤ 6
  bd : ∀ s ∈ xs, BdE s
  below : Below w.heap.size w w'
theorem Mdl.drawn {w w' : World} {o : Obj} {B k : Nat} {v : Value} {xs : List GEarth} (h : Mdl (w.alloc o) w' B w.heap.size k v xs) : DrMd w w' v xs := ⟨h.lst, h.len, h.bd, grown_below h.gr⟩
theorem atOv_bd (xs : List GEarth) (l : Int) : 0 ≤ atOv xs l ∧ atOv xs l ≤ 2001 := by
  unfold atOv
  have := runE_le (overE (prodE xs) xs l.toNat) 2001
  split <;> omega
theorem numMd_bd (xs : List GEarth) : 0 ≤ numMd xs ∧ numMd xs ≤ 1000 := by
  unfold numMd
  split
  · rename_i h
    have := depE_all (goodE_yes h)
    omega
  · omega
theorem cur_distance (w0 w : World) (B b k g cap : Nat) (xs : List GEarth) (hS : Mdl w0 w B b k (.slice (some ⟨g, 0, none⟩) xs.length cap) xs) (hk : k ≤ 600000) (hbw : b < w0.heap.size) :
    Calls Try.prog 120 #[.pointer (some ⟨b, 0, none⟩)] w fun e w' => ∃ x : Int, e = .returned (.int .i64 x) ∧ (-1 ≤ x ∧ x ≤ 2001) ∧ Mdl w0 w' B b (k + 10) (.slice (some ⟨g, 0, none⟩) xs.length cap) xs := by
  have HS := Lib.hid hS
  have z0 := hS.cur.lt
  clear hS
  go_enter Try.func120, Try.ntmps120
  go_wp2_with fail
  refine (cur_among _ B b _ (HS.out.cur.alloc _) (by omega) _ _ (ints_lit w b z0 3 11 [0, 1, 10, 40, 100, 170, 300, 1000, 2000, 2001, -1]) (by simp) (by simp)).mono ?_
  rintro e w1 ⟨x, rfl, hx, hc1, hg1⟩
  have hx2 : -1 ≤ x ∧ x ≤ 2001 := by
    revert x
    decide
  have HS1 := Lib.hid ((HS.out.alloc _).draw hbw hg1 hc1)
  clear HS hc1 hg1 hx
  go_wp2
  go_ret
  exact ⟨x, rfl, hx2, HS1.out.mono (by omega)⟩
set_option maxRecDepth 100000 in
set_option maxHeartbeats 1000000 in
theorem drawIsM (w : World) (B : Nat) (v : Value) (h : CodeArg w B v) :
    Calls Try.prog 115 #[v] w fun e w' => ∃ (v' : Value) (xs : List GEarth), e = .returned v' ∧ DrMd w w' v' xs := by
  obtain ⟨h0, ao, n, cap, rfl, h2, h3⟩ := h
  have hcu := cur_new w B ao n cap h0 h2 h3
  go_enter Try.func115, Try.ntmps115
  go_wp2_with fail
  refine (cur_model _ B w.heap.size 0 hcu (by omega)).mono ?_
  rintro e w1 ⟨v1, xs, rfl, hS⟩
  have HS := Lib.hid hS
  obtain ⟨g1, cap1, rfl⟩ := hS.form
  clear hS
  go_wp2
  go_ret
  exact ⟨_, xs, rfl, HS.out.drawn⟩
set_option maxRecDepth 100000 in
theorem drawMd (w : World) (B : Nat) (v : Value) (h : CodeArg w B v) :
    Calls Try.prog 31 #[v] w fun e w' => ∃ (v' : Value) (xs : List GEarth), e = .returned v' ∧ DrMd w w' v' xs := by
  have C := Lib.hid (drawIsM w B v h)
  obtain ⟨h0, ao, n, cap, rfl, h2, h3⟩ := h
  clear h3
  go_enter Try.func31, Try.ntmps31
  go_wp2_with fail
  refine C.out.mono ?_
  rintro e w1 ⟨v1, xs, rfl, hD⟩
  have HD := Lib.hid hD
  obtain ⟨a1, c1, rfl⟩ := hD.lst.form
  clear hD
  go_wp2
  go_ret
  exact ⟨_, xs, rfl, HD.out⟩
set_option maxRecDepth 100000 in
set_option maxHeartbeats 2000000 in
theorem drawFi (w : World) (B : Nat) (v : Value) (h : CodeArg w B v) :
    Calls Try.prog 116 #[v] w fun e w' => ∃ (v' : Value) (xs : List GEarth) (x : Int), e = .returned (.tuple #[v', .int .i64 x]) ∧ (-100 ≤ x ∧ x ≤ 200000) ∧ DrMd w w' v' xs := by
  obtain ⟨h0, ao, n, cap, rfl, h2, h3⟩ := h
  have hcu := cur_new w B ao n cap h0 h2 h3
  have hbw : w.heap.size < (w.alloc (.cells #[.slice ao n cap, .int .i64 0, .int .u64 0] 101)).heap.size := by simp
  clear h3
  go_enter Try.func116, Try.ntmps116
  go_wp2_with fail
  refine (cur_model _ B w.heap.size 0 hcu (by omega)).mono ?_
  rintro e w1 ⟨v1, xs, rfl, hS⟩
  obtain ⟨g1, cap1, rfl⟩ := hS.form
  have hx6 := hS.len
  have HS1 := Lib.hid hS
  clear hS hcu
  by_cases hx1 : 1 < xs.length
  case neg =>
    have gx : ¬ (1 : Int) < (xs.length : Int) := by omega
    go_wp2_with fail
    refine (cur_distance _ _ B w.heap.size _ g1 cap1 xs HS1.out (by omega) hbw).mono ?_
    rintro e w2 ⟨x, rfl, hbx, hS⟩
    have HS2 := Lib.hid hS
    clear HS1 hS
    go_wp2
    go_ret2
    exact ⟨_, xs, x, rfl, (by omega), HS2.out.drawn⟩
  have gx : (1 : Int) < (xs.length : Int) := by omega
  go_wp2_with fail
  refine (cur_one _ B w.heap.size _ (2) HS1.out.cur (by omega) (by omega) (by omega)).mono ?_
  rintro e w2 ⟨yes, rfl, hc, hg⟩
  have HS2 := Lib.hid (HS1.out.draw hbw hg hc)
  clear HS1 hc hg
  cases yes with
  | false =>
    go_wp2_with fail
    refine (cur_distance _ _ B w.heap.size _ g1 cap1 xs HS2.out (by omega) hbw).mono ?_
    rintro e w3 ⟨x, rfl, hbx, hS⟩
    have HS3 := Lib.hid hS
    clear HS2 hS
    go_wp2
    go_ret2
    exact ⟨_, xs, x, rfl, (by omega), HS3.out.drawn⟩
  | true =>
    have s1 : IntKind.i64.wrap ((xs.length : Int) - 1) = (xs.length : Int) - 1 := IntWalk.i64_in _ (by omega)
    go_wp2_with fail
    refine (cur_pick _ B w.heap.size _ ((xs.length : Int) - 1) HS2.out.cur (by omega) (by omega) (by omega)).mono ?_
    rintro e w3 ⟨r, rfl, h0r, h1r, hc, hg⟩
    have HS3 := Lib.hid (HS2.out.draw hbw hg hc)
    clear HS2 hc hg
    have s2 : IntKind.i64.wrap (1 + r) = 1 + r := IntWalk.i64_in _ (by omega)
    have hat := atOv_bd xs (1 + r)
    have CO := Lib.hid (specOv xs _ (1 + r) w3 _ HS3.out.lst (Nat.le_refl _) (mdl_sz hx6) (fun s hs => (HS3.out.bd s hs).wf) (by unfold I64; omega))
    generalize atOv xs (1 + r) = at0 at *
    generalize okOv xs (1 + r) = ok0 at *
    go_wp2_with fail
    refine (CO.out).mono ?_
    rintro e w4 ⟨rfl, hb⟩
    have HS4 := Lib.hid (HS3.out.below hb)
    clear HS3 hb
    clear CO
    cases ok0 with
    | false =>
      go_wp2_with fail
      refine (cur_distance _ _ B w.heap.size _ g1 cap1 xs HS4.out (by omega) hbw).mono ?_
      rintro e w5 ⟨x, rfl, hbx, hS⟩
      have HS5 := Lib.hid hS
      clear HS4 hS
      go_wp2
      go_ret2
      exact ⟨_, xs, x, rfl, (by omega), HS5.out.drawn⟩
    | true =>
      go_wp2_with fail
      refine (cur_pick _ B w.heap.size _ (2) HS4.out.cur (by omega) (by omega) (by omega)).mono ?_
      rintro e w5 ⟨y, rfl, h0y, h1y, hc, hg⟩
      have HS5 := Lib.hid (HS4.out.draw hbw hg hc)
      clear HS4 hc hg
      have s3 : IntKind.i64.wrap (at0 - y) = at0 - y := IntWalk.i64_in _ (by omega)
      go_wp2
      go_ret2
      exact ⟨_, xs, (at0 - y), rfl, (by omega), HS5.out.drawn⟩
set_option maxRecDepth 100000 in
theorem drawFt (w : World) (B : Nat) (v : Value) (h : CodeArg w B v) :
    Calls Try.prog 34 #[v] w fun e w' => ∃ (v' : Value) (xs : List GEarth) (x : Int), e = .returned (.tuple #[v', .int .i64 x]) ∧ (-100 ≤ x ∧ x ≤ 200000) ∧ DrMd w w' v' xs := by
  have C := Lib.hid (drawFi w B v h)
  obtain ⟨h0, ao, n, cap, rfl, h2, h3⟩ := h
  clear h3
  go_enter Try.func34, Try.ntmps34
  go_wp2_with fail
  refine C.out.mono ?_
  rintro e w1 ⟨v1, xs, x, rfl, hb, hD⟩
  have HD := Lib.hid hD
  obtain ⟨a1, c1, rfl⟩ := hD.lst.form
  clear hD
  go_wp2
  go_ret2
  exact ⟨_, xs, x, rfl, hb, HD.out⟩
set_option maxRecDepth 100000 in
set_option maxHeartbeats 2000000 in
theorem drawRe (w : World) (B : Nat) (v : Value) (h : CodeArg w B v) :
    Calls Try.prog 39 #[v] w fun e w' => ∃ (v' : Value) (xs : List GEarth) (x : Int), e = .returned (.tuple #[v', .int .i64 x]) ∧ (-100 ≤ x ∧ x ≤ 200000) ∧ DrMd w w' v' xs := by
  obtain ⟨h0, ao, n, cap, rfl, h2, h3⟩ := h
  have hcu := cur_new w B ao n cap h0 h2 h3
  have hbw : w.heap.size < (w.alloc (.cells #[.slice ao n cap, .int .i64 0, .int .u64 0] 101)).heap.size := by simp
  clear h3
  go_enter Try.func39, Try.ntmps39
  go_wp2_with fail
  refine (cur_model _ B w.heap.size 0 hcu (by omega)).mono ?_
  rintro e w1 ⟨v1, xs, rfl, hS⟩
  obtain ⟨g1, cap1, rfl⟩ := hS.form
  have hx6 := hS.len
  have HS1 := Lib.hid hS
  clear hS hcu
  have z2 := HS1.out.cur.lt
  go_wp2_with fail
  refine (cur_among _ B w.heap.size _ (HS1.out.cur.alloc _) (by omega) _ _ (ints_lit w1 w.heap.size z2 3 9 [0, 1, 3, 10, 40, 100, 100000, 100001, -1]) (by simp) (by simp)).mono ?_
  rintro e w2 ⟨x, rfl, hx, hc, hg⟩
  have hbx : -1 ≤ x ∧ x ≤ 100001 := by revert x; decide
  have HS2 := Lib.hid ((HS1.out.alloc _).draw hbw hg hc)
  clear HS1 hc hg hx z2
  go_wp2
  go_ret2
  exact ⟨_, xs, x, rfl, (by omega), HS2.out.drawn⟩
set_option maxRecDepth 100000 in
set_option maxHeartbeats 2000000 in
theorem drawVi (w : World) (B : Nat) (v : Value) (h : CodeArg w B v) :
    Calls Try.prog 42 #[v] w fun e w' => ∃ (v' : Value) (xs : List GEarth) (k x : Int), e = .returned (.tuple #[v', .int .i64 k, .int .i64 x]) ∧ (-100 ≤ k ∧ k ≤ 200000) ∧ (-100 ≤ x ∧ x ≤ 200000) ∧ DrMd w w' v' xs := by
  obtain ⟨h0, ao, n, cap, rfl, h2, h3⟩ := h
  have hcu := cur_new w B ao n cap h0 h2 h3
  have hbw : w.heap.size < (w.alloc (.cells #[.slice ao n cap, .int .i64 0, .int .u64 0] 101)).heap.size := by simp
  clear h3
  go_enter Try.func42, Try.ntmps42
  go_wp2_with fail
  refine (cur_model _ B w.heap.size 0 hcu (by omega)).mono ?_
  rintro e w1 ⟨v1, xs, rfl, hS⟩
  obtain ⟨g1, cap1, rfl⟩ := hS.form
  have hx6 := hS.len
  have HS1 := Lib.hid hS
  clear hS hcu
  have s1 : IntKind.i64.wrap ((xs.length : Int) + 1) = (xs.length : Int) + 1 := IntWalk.i64_in _ (by omega)
  go_wp2_with fail
  refine (cur_pick _ B w.heap.size _ ((xs.length : Int) + 1) HS1.out.cur (by omega) (by omega) (by omega)).mono ?_
  rintro e w2 ⟨r, rfl, h0r, h1r, hc, hg⟩
  have HS2 := Lib.hid (HS1.out.draw hbw hg hc)
  clear HS1 hc hg
  go_wp2_with fail
  refine (cur_pick _ B w.heap.size _ (9) HS2.out.cur (by omega) (by omega) (by omega)).mono ?_
  rintro e w3 ⟨u, rfl, h0u, h1u, hc, hg⟩
  have HS3 := Lib.hid (HS2.out.draw hbw hg hc)
  clear HS2 hc hg
  obtain ⟨q, hq, hq2⟩ : ∃ q : Int, u.tdiv 8 = q ∧ 0 ≤ q ∧ q ≤ 1 := ⟨u / 8, by rw [Int.tdiv_eq_ediv_of_nonneg h0u], by omega, by omega⟩
  have s2 : IntKind.i64.wrap q = q := IntWalk.i64_in _ (by omega)
  have s3 : IntKind.i64.wrap (r - q) = r - q := IntWalk.i64_in _ (by omega)
  go_wp2_with fail
  refine (cur_distance _ _ B w.heap.size _ g1 cap1 xs HS3.out (by omega) hbw).mono ?_
  rintro e w4 ⟨x, rfl, hbx, hS⟩
  have HS4 := Lib.hid hS
  clear HS3 hS
  go_wp2
  go_ret3
  exact ⟨_, xs, (r - q), x, rfl, (by omega), (by omega), HS4.out.drawn⟩
set_option maxRecDepth 100000 in
set_option maxHeartbeats 2000000 in
theorem drawOv (w : World) (B : Nat) (v : Value) (h : CodeArg w B v) :
    Calls Try.prog 27 #[v] w fun e w' => ∃ (v' : Value) (xs : List GEarth) (k : Int), e = .returned (.tuple #[v', .int .i64 k]) ∧ (-100 ≤ k ∧ k ≤ 200000) ∧ DrMd w w' v' xs := by
  obtain ⟨h0, ao, n, cap, rfl, h2, h3⟩ := h
  have hcu := cur_new w B ao n cap h0 h2 h3
  have hbw : w.heap.size < (w.alloc (.cells #[.slice ao n cap, .int .i64 0, .int .u64 0] 101)).heap.size := by simp
  clear h3
  go_enter Try.func27, Try.ntmps27
  go_wp2_with fail
  refine (cur_model _ B w.heap.size 0 hcu (by omega)).mono ?_
  rintro e w1 ⟨v1, xs, rfl, hS⟩
  obtain ⟨g1, cap1, rfl⟩ := hS.form
  have hx6 := hS.len
  have HS1 := Lib.hid hS
  clear hS hcu
  have s1 : IntKind.i64.wrap ((xs.length : Int) + 1) = (xs.length : Int) + 1 := IntWalk.i64_in _ (by omega)
  go_wp2_with fail
  refine (cur_pick _ B w.heap.size _ ((xs.length : Int) + 1) HS1.out.cur (by omega) (by omega) (by omega)).mono ?_
  rintro e w2 ⟨r, rfl, h0r, h1r, hc, hg⟩
  have HS2 := Lib.hid (HS1.out.draw hbw hg hc)
  clear HS1 hc hg
  go_wp2_with fail
  refine (cur_pick _ B w.heap.size _ (9) HS2.out.cur (by omega) (by omega) (by omega)).mono ?_
  rintro e w3 ⟨u, rfl, h0u, h1u, hc, hg⟩
  have HS3 := Lib.hid (HS2.out.draw hbw hg hc)
  clear HS2 hc hg
  obtain ⟨q, hq, hq2⟩ : ∃ q : Int, u.tdiv 8 = q ∧ 0 ≤ q ∧ q ≤ 1 := ⟨u / 8, by rw [Int.tdiv_eq_ediv_of_nonneg h0u], by omega, by omega⟩
  have s2 : IntKind.i64.wrap q = q := IntWalk.i64_in _ (by omega)
  have s3 : IntKind.i64.wrap (r - q) = r - q := IntWalk.i64_in _ (by omega)
  go_wp2
  go_ret2
  exact ⟨_, xs, (r - q), rfl, (by omega), HS3.out.drawn⟩
set_option maxRecDepth 100000 in
set_option maxHeartbeats 2000000 in
theorem drawTo (w : World) (B : Nat) (v : Value) (h : CodeArg w B v) :
    Calls Try.prog 30 #[v] w fun e w' => ∃ (v' : Value) (xs : List GEarth) (x : Int), e = .returned (.tuple #[v', .int .i64 x]) ∧ (-100 ≤ x ∧ x ≤ 200000) ∧ DrMd w w' v' xs := by
  obtain ⟨h0, ao, n, cap, rfl, h2, h3⟩ := h
  have hcu := cur_new w B ao n cap h0 h2 h3
  have hbw : w.heap.size < (w.alloc (.cells #[.slice ao n cap, .int .i64 0, .int .u64 0] 101)).heap.size := by simp
  clear h3
  go_enter Try.func30, Try.ntmps30
  go_wp2_with fail
  refine (cur_model _ B w.heap.size 0 hcu (by omega)).mono ?_
  rintro e w1 ⟨v1, xs, rfl, hS⟩
  obtain ⟨g1, cap1, rfl⟩ := hS.form
  have hx6 := hS.len
  have HS1 := Lib.hid hS
  clear hS hcu
  have hat := numMd_bd xs
  have CO := Lib.hid (specMd xs _ w1 _ HS1.out.lst (Nat.le_refl _) (mdl_sz hx6) (fun s hs => (HS1.out.bd s hs).wf))
  generalize numMd xs = m at *
  generalize okMd xs = ok0 at *
  go_wp2_with fail
  refine (CO.out).mono ?_
  rintro e w2 ⟨rfl, hb⟩
  have HS2 := Lib.hid (HS1.out.below hb)
  clear HS1 hb
  obtain ⟨q2, e2, b2, c2⟩ : ∃ q : Int, m.tdiv 2 = q ∧ 0 ≤ q ∧ q ≤ 1000 := ⟨m / 2, by rw [Int.tdiv_eq_ediv_of_nonneg hat.1], by omega, by omega⟩
  obtain ⟨q3, e3, b3, c3⟩ : ∃ q : Int, m.tdiv 3 = q ∧ 0 ≤ q ∧ q ≤ 1000 := ⟨m / 3, by rw [Int.tdiv_eq_ediv_of_nonneg hat.1], by omega, by omega⟩
  have s1 : IntKind.i64.wrap (m - 1) = m - 1 := IntWalk.i64_in _ (by omega)
  have s2 : IntKind.i64.wrap q2 = q2 := IntWalk.i64_in _ (by omega)
  have s3 : IntKind.i64.wrap q3 = q3 := IntWalk.i64_in _ (by omega)
  have s4 : IntKind.i64.wrap (m + 1) = m + 1 := IntWalk.i64_in _ (by omega)
  have z3 := HS2.out.cur.lt
  go_wp2_with fail
  refine (cur_among _ B w.heap.size _ (HS2.out.cur.alloc _) (by omega) _ _ (ints_lit w2 w.heap.size z3 3 8 [0, 1, m, m - 1, q2, q3, m + 1, -1]) (by simp) (by simp)).mono ?_
  rintro e w3 ⟨x, rfl, hx, hc, hg⟩
  have hbx : -100 ≤ x ∧ x ≤ 200000 := by simp only [List.mem_cons, List.not_mem_nil, or_false] at hx; omega
  have HS3 := Lib.hid ((HS2.out.alloc _).draw hbw hg hc)
  clear HS2 hc hg hx z3
  go_wp2
  go_ret2
  exact ⟨_, xs, x, rfl, hbx, HS3.out.drawn⟩
end Go.Proofs.Ytklilfbokpljkaa
