/- FnNetworks: helpers, draws and the mathematics. -/
import Derived.Test.YtjiaejempfhheaaRi
import Derived.Test.YtjiaejempfhheaaDrR
import Derived.Test.YtjiaejempfhheaaPairI
import Derived.Test.YtjiaejempfhheaaStaI
import Derived.Test.YtjiaejempfhheaaStaQ
import Derived.Test.YtjiaejempfhheaaStaR
namespace Go.Proofs.Ytjiaejempfhheaa
open Go.ChangeShapes Go.WideShapes Go.ChangeAt Go.RowKit Go.ChangeMaps Go.Sort
set_option linter.unusedSimpArgs false
set_option linter.unusedVariables false

set_option maxHeartbeats 400000 in
theorem rTable_same (xss : List (List Int)) (v v2 : Value) (w : World) (B : Nat) (h : SSL w B v xss) (h2 : SSL w B v2 xss) (hB : B ≤ w.heap.size) :
    Calls Try.prog 40 #[v, v2] w fun e w' => e = .returned (.bool true) ∧ Below w.heap.size w w' := by
  obtain ⟨us, hl, ⟨ao, cap, rfl, hcap, hmax, -, hc⟩, hi⟩ := h
  obtain ⟨us2, hl2, ⟨ao2, cap2, rfl, hcap2, hmax2, -, hc2⟩, hi2⟩ := h2
  unfold maxLen at hmax
  rw [hl] at hcap ⊢
  rw [hl2] at hcap2 ⊢
  have HC := Lib.hid hc
  have HC2 := Lib.hid hc2
  have HI := Lib.hid hi
  have HI2 := Lib.hid hi2
  have HL := Lib.hid hl
  have HL2 := Lib.hid hl2
  clear hc hc2 hi hi2 hl hl2
  go_enter Try.func40, Try.ntmps40
  go_wp2
  go_loopw [5] (fun i wr => ∃ (k : Nat), k ≤ xss.length ∧ i = .int .i64 k ∧ Below w.heap.size w wr)
    (fun i _ => xss.length - (intOf i).toNat)
  case atStart => exact ⟨0, Nat.zero_le _, rfl, Below.refl _ _⟩
  case round =>
    obtain ⟨k, hk, rfl, hbl⟩ := hrel
    by_cases hlt : k < xss.length
    case neg =>
      obtain rfl : k = xss.length := by omega
      go_wp2
      go_ret
      exact ⟨rfl, hbl⟩
    obtain ⟨u, hu⟩ := get_of_lt (l := us) (k := k) (by rw [HL.out]; exact hlt)
    obtain ⟨u2, hu2⟩ := get_of_lt (l := us2) (k := k) (by rw [HL2.out]; exact hlt)
    obtain ⟨xs, hx⟩ := get_of_lt hlt
    obtain ⟨b, off, rfl, hb, hcell⟩ := HC.out k u hu
    obtain ⟨b2, off2, rfl, hb2, hcell2⟩ := HC2.out k u2 hu2
    have c1 : wr.cell? ⟨b, off + k, none⟩ = some u := cellOf hbl (by omega) hcell
    have c2 : wr.cell? ⟨b2, off2 + k, none⟩ = some u2 := cellOf hbl (by omega) hcell2
    have hsz := hbl.size
    have L1 := (HI.out k u xs hu hx).below (hbl.mono hB)
    have L2 := (HI2.out k u2 xs hu2 hx).below (hbl.mono hB)
    have hB2 : B ≤ wr.heap.size := by omega
    have cc := fun d os => Calls.regrown_of (w := wr) (d := d) (os := os) (rInts_same xs u u2 _ B (L1.below ((below_regrown wr d os).mono hB2)) (L2.below ((below_regrown wr d os).mono hB2)) (Nat.le_trans hB2 (below_regrown wr d os).size))
    have r1 := cell_regrown c1
    have r2 := cell_regrown c2
    have hk0 : (0 : Int) ≤ (k : Int) := by omega
    have hk1 : (k : Int) < (xss.length : Int) := by omega
    clear hu hu2 hx hcell hcell2 L1 L2
    go_wp2
    refine wp_region_quiet_below (by kernel_rfl) (by kernel_rfl) ?_
    repeat (go_big_quiet_step (exact cc _ _))
    refine wpQuiet_nil ?_
    intro _ hw'
    obtain ⟨⟨dq, osq⟩, hw''⟩ := hw'
    subst hw''
    have hb2 := below_regrown (wr) dq osq
    generalize grow (redrawn (wr) dq) osq = w2 at *
    clear cc r1 r2
    go_wp2
    go_roundw
    case rel => exact ⟨k + 1, by omega, by go_num, hbl.trans (hb2.mono hsz)⟩
    case measure => simp [intOf]; omega

theorem rStations_same (xs : List GStation) (v v2 : Value) (w : World) (B : Nat) (h : StationL w B v xs) (h2 : StationL w B v2 xs) (hB : B ≤ w.heap.size) :
    Calls Try.prog 34 #[v, v2] w fun e w' => e = .returned (.bool true) ∧ Below w.heap.size w w' := by
  obtain ⟨ao, cap, rfl, hcap, hmax, -, hc⟩ := h
  obtain ⟨ao2, cap2, rfl, hcap2, hmax2, -, hc2⟩ := h2
  unfold maxLen at hmax hmax2
  go_enter Try.func34, Try.ntmps34
  go_wp2
  go_loopw [5] (fun i wr => ∃ (k : Nat), k ≤ xs.length ∧ i = .int .i64 k ∧ Below w.heap.size w wr)
    (fun i _ => xs.length - (intOf i).toNat)
  case atStart => exact ⟨0, Nat.zero_le _, rfl, Below.refl _ _⟩
  case round =>
    obtain ⟨k, hk, rfl, hbl⟩ := hrel
    have hsz := hbl.size
    by_cases hlt : k < xs.length
    · obtain ⟨s, hs⟩ := get_of_lt hlt
      obtain ⟨b, off, rfl, hb, hcell⟩ := hc k s hs
      obtain ⟨b2, off2, rfl, hb2, hcell2⟩ := hc2 k s hs
      have c0 : wr.cell? ⟨b, off + k * 8, none⟩ = some (.int .i64 s.pId) := cellOf hbl (by omega) (hcell 0 _ rfl)
      have c1 : wr.cell? ⟨b, off + k * 8 + 1, none⟩ = some (.string s.pName) := cellOf hbl (by omega) (hcell 1 _ rfl)
      have c2 : wr.cell? ⟨b, off + k * 8 + 2, none⟩ = some (.int .i64 s.pX) := cellOf hbl (by omega) (hcell 2 _ rfl)
      have c3 : wr.cell? ⟨b, off + k * 8 + 3, none⟩ = some (.int .i64 s.pY) := cellOf hbl (by omega) (hcell 3 _ rfl)
      have c4 : wr.cell? ⟨b, off + k * 8 + 4, none⟩ = some (.int .i64 s.pGain) := cellOf hbl (by omega) (hcell 4 _ rfl)
      have c5 : wr.cell? ⟨b, off + k * 8 + 5, none⟩ = some (.int .i64 s.pLow) := cellOf hbl (by omega) (hcell 5 _ rfl)
      have c6 : wr.cell? ⟨b, off + k * 8 + 6, none⟩ = some (.int .i64 s.pHigh) := cellOf hbl (by omega) (hcell 6 _ rfl)
      have c7 : wr.cell? ⟨b, off + k * 8 + 7, none⟩ = some (.int .i64 s.pUntil) := cellOf hbl (by omega) (hcell 7 _ rfl)
      have d0 : wr.cell? ⟨b2, off2 + k * 8, none⟩ = some (.int .i64 s.pId) := cellOf hbl (by omega) (hcell2 0 _ rfl)
      have d1 : wr.cell? ⟨b2, off2 + k * 8 + 1, none⟩ = some (.string s.pName) := cellOf hbl (by omega) (hcell2 1 _ rfl)
      have d2 : wr.cell? ⟨b2, off2 + k * 8 + 2, none⟩ = some (.int .i64 s.pX) := cellOf hbl (by omega) (hcell2 2 _ rfl)
      have d3 : wr.cell? ⟨b2, off2 + k * 8 + 3, none⟩ = some (.int .i64 s.pY) := cellOf hbl (by omega) (hcell2 3 _ rfl)
      have d4 : wr.cell? ⟨b2, off2 + k * 8 + 4, none⟩ = some (.int .i64 s.pGain) := cellOf hbl (by omega) (hcell2 4 _ rfl)
      have d5 : wr.cell? ⟨b2, off2 + k * 8 + 5, none⟩ = some (.int .i64 s.pLow) := cellOf hbl (by omega) (hcell2 5 _ rfl)
      have d6 : wr.cell? ⟨b2, off2 + k * 8 + 6, none⟩ = some (.int .i64 s.pHigh) := cellOf hbl (by omega) (hcell2 6 _ rfl)
      have d7 : wr.cell? ⟨b2, off2 + k * 8 + 7, none⟩ = some (.int .i64 s.pUntil) := cellOf hbl (by omega) (hcell2 7 _ rfl)
      have hi0 : (0 : Int) ≤ (k : Int) := by omega
      have hi1 : (k : Int) < (xs.length : Int) := by omega
      have hbs : b < wr.heap.size := by omega
      have hbs2 : b2 < wr.heap.size := by omega
      clear hs hcell hcell2 hc hc2
      go_wp2
      go_quiet (fail)
      go_wp2
      go_roundw
      case rel => exact ⟨k + 1, by omega, by go_num, drewN_b hbl _⟩
      case measure => simp [intOf]; omega
    · go_wp2
      go_ret
      exact ⟨rfl, hbl⟩
set_option maxHeartbeats 400000 in
theorem rHas_no (ss : List Int) (x : Int) (v : Value) (w : World) (B : Nat) (h : Lst (Value.int .i64) w B v ss) (hB : B ≤ w.heap.size) (hx : ∀ y ∈ ss, y ≠ x) :
    Calls Try.prog 36 #[v, .int .i64 x] w fun e w' => e = .returned (.bool false) ∧ Below w.heap.size w w' := by
  obtain ⟨ao, cap, rfl, hcap, hmax, -, hc⟩ := h
  unfold maxLen at hmax
  go_enter Try.func36, Try.ntmps36
  go_wp2
  go_loopw [5] (fun i wr => ∃ (k : Nat), k ≤ ss.length ∧ i = .int .i64 k ∧ Below w.heap.size w wr)
    (fun i _ => ss.length - (intOf i).toNat)
  case atStart => exact ⟨0, Nat.zero_le _, rfl, Below.refl _ _⟩
  case round =>
    obtain ⟨k, hk, rfl, hbl⟩ := hrel
    by_cases hlt : k < ss.length
    · obtain ⟨s, hs⟩ := get_of_lt hlt
      have hne := hx s (List.mem_of_getElem? hs)
      obtain ⟨b, off, rfl, hb, hcell⟩ := hc k s hs
      have hcell' := cellOf hbl (by omega) hcell
      have hne1 : (s == x) = false := by simpa using hne
      have hne2 : ¬ s = x := hne
      clear hs hcell
      have hi0 : (0 : Int) ≤ (k : Int) := by omega
      have hi1 : (k : Int) < (ss.length : Int) := by omega
      go_wp2
      go_roundw
      case rel => exact ⟨k + 1, by omega, by go_num, hbl⟩
      case measure => simp [intOf]; omega
    · go_wp2
      go_ret
      exact ⟨rfl, hbl⟩
theorem Stn.get {w0 w : World} {B b k n cap g : Nat} {xs : List GStation} (h : Stn w0 w B b k (.slice (some ⟨g, 0, none⟩) n cap) xs) {i : Nat} {s : GStation} (hs : xs[i]? = some s) : w.cell? ⟨g, i * 8, none⟩ = some (.int .i64 s.pId) := by
  have h1 := (h.lst.at hs).2 0 _ rfl
  simpa using h1
set_option maxRecDepth 100000 in
set_option maxHeartbeats 2000000 in
theorem cur_stationId {w0 w : World} {B b k : Nat} {v : Value} {xs : List GStation} (hb : b < w0.heap.size) (hS : Stn w0 w B b k v xs) (hl : xs.length ≤ 20) (hk : k ≤ 600000) :
    Calls Try.prog 88 #[.pointer (some ⟨b, 0, none⟩), v] w fun e w' => ∃ i : Int, e = .returned (.int .i64 i) ∧ (-2000000 ≤ i ∧ i ≤ 2000000) ∧ Stn w0 w' B b (k + 4) v xs := by
  obtain ⟨g, cap, rfl⟩ := hS.form
  have HS := Lib.hid hS
  clear hS
  have hl20 : (xs.length : Int) ≤ 20 := by omega
  by_cases h0 : xs.length = 0
  case pos =>
    have h1 : ((xs.length : Int) == 0) = true := by simp [h0]
    have h2 : (xs.length : Int) = 0 := by omega
    have h3 : xs = [] := List.eq_nil_of_length_eq_zero h0
    subst h3
    go_enter Try.func88, Try.ntmps88
    go_wp2_with fail
    refine (cur_among _ B b _ (HS.out.cur.alloc _) (by omega) _ _ (ints_lit w b HS.out.cur.lt 3 3 [0, 1, 50]) (by simp) (by simp)).mono ?_
    rintro e w1 ⟨x, rfl, hx, hc, hg⟩
    have hx2 : -2000000 ≤ x ∧ x ≤ 2000000 := by
      revert x
      decide
    go_wp2
    go_ret
    exact ⟨x, rfl, hx2, (HS.out.alloc _).draw hb hg (hc.mono (by omega))⟩
  case neg =>
    have h1 : ((xs.length : Int) == 0) = false := by simp; exact fun e => h0 (by rw [e]; rfl)
    have h2 : ¬ (xs.length : Int) = 0 := by omega
    have h3 : ¬ xs = [] := fun e => h0 (by rw [e]; rfl)
    go_enter Try.func88, Try.ntmps88
    go_wp2_with fail
    refine (cur_one _ B b _ 10 HS.out.cur (by omega) (by omega) (by omega)).mono ?_
    rintro e w1 ⟨yes, rfl, hc, hg⟩
    have HS1 := Lib.hid (HS.out.draw hb hg hc)
    clear HS hc hg
    cases yes with
    | true =>
      go_wp2_with fail
      refine (cur_among _ B b _ (HS1.out.cur.alloc _) (by omega) _ _ (ints_lit w1 b HS1.out.cur.lt 3 3 [0, 1, 50]) (by simp) (by simp)).mono ?_
      rintro e w2 ⟨x, rfl, hx, hc, hg⟩
      have hx2 : -2000000 ≤ x ∧ x ≤ 2000000 := by
        revert x
        decide
      go_wp2
      go_ret
      exact ⟨x, rfl, hx2, (HS1.out.alloc _).draw hb hg (hc.mono (by omega))⟩
    | false =>
      go_wp2_with fail
      refine (cur_pick _ B b _ (xs.length : Int) HS1.out.cur (by omega) (by omega) (by omega)).mono ?_
      rintro e w2 ⟨r, rfl, hr0, hr1, hc, hg⟩
      have HS2 := Lib.hid (HS1.out.draw hb hg hc)
      clear HS1 hc hg
      obtain ⟨j, rfl⟩ : ∃ j : Nat, r = j := ⟨r.toNat, by omega⟩
      obtain ⟨s, hs⟩ := get_of_lt (l := xs) (k := j) (by omega)
      have c0 := HS2.out.get hs
      have hbs := HS2.out.bd s (List.mem_of_getElem? hs)
      have hid : -2000000 ≤ s.pId ∧ s.pId ≤ 2000000 := by unfold BdS at hbs; omega
      clear hs hbs
      go_wp2
      go_ret
      exact ⟨s.pId, rfl, hid, HS2.out.mono (by omega)⟩
/-- What is calibrated anew is not told before its tick. -/
theorem rec_unc {xs : List GStation} {id g u : Int} (h : okRec xs id g u = true) : okUnc (resRec xs id g u) u = true ∧ ∀ y ∈ resUnc (resRec xs id g u) u, y ≠ id := by
  have hex : ∃ ys, isRec xs id g u ys := @of_decide_eq_true _ (Classical.propDecidable _) h
  have hr : isRec xs id g u (resRec xs id g u) := by unfold resRec; rw [dif_pos hex]; exact Classical.choose_spec hex
  generalize resRec xs id g u = ys at *
  obtain ⟨_, j, s, hj, hid, hu, hgy, rfl⟩ := hr
  have hjl := (List.getElem?_eq_some_iff.1 hj).1
  have hy : (xs.set j (upd s g u))[j]? = some (upd s g u) := List.getElem?_set_self hjl
  have hgs := (goodS_yes (goodL_at hgy hy)).2.2.2.1
  have hok : okUnc (xs.set j (upd s g u)) u = true := by unfold okUnc; rw [hgy, Bool.true_and]; exact hgs
  refine ⟨hok, fun y hy2 => ?_⟩
  unfold resUnc idsP at hy2
  rw [if_pos hok] at hy2
  obtain ⟨t, ht, rfl⟩ := List.mem_map.1 hy2
  obtain ⟨ht1, ht2⟩ := List.mem_filter.1 ht
  intro e
  obtain ⟨k, hk⟩ := List.mem_iff_getElem?.1 ht1
  have hp := List.pairwise_iff_getElem.1 (ids_nodup hgy)
  have hk' := List.getElem?_eq_some_iff.1 hk
  have hy' := List.getElem?_eq_some_iff.1 hy
  have hidu : (upd s g u).pId = id := hid
  have hkj : k = j := by
    rcases Nat.lt_trichotomy k j with q | q | q
    · have := hp k j hk'.1 hy'.1 q
      rw [hk'.2, hy'.2] at this; omega
    · exact q
    · have := hp j k hy'.1 hk'.1 q
      rw [hk'.2, hy'.2] at this; omega
  subst hkj
  rw [hy] at hk
  cases hk
  unfold uncB upd at ht2
  have := of_decide_eq_true ht2
  simp at this
theorem fullP_count (xs : List GStation) : ∀ i, i ≤ xs.length → 2 * (fullP xs i).length + i * (i + 1) = 2 * (i * xs.length)
  | 0, _ => by simp [fullP]
  | i + 1, h => by
    have ih := fullP_count xs i (by omega)
    obtain ⟨s, hs⟩ := get_of_lt (l := xs) (k := i) (by omega)
    rw [fullP_succ hs, List.length_append]
    unfold rowL
    rw [List.length_map, List.length_drop]
    have e1 : (i + 1) * (i + 1 + 1) = i * (i + 1) + 2 * (i + 1) := by rw [Nat.add_mul, Nat.one_mul, Nat.mul_add, Nat.mul_one]; omega
    have e2 : (i + 1) * xs.length = i * xs.length + xs.length := by rw [Nat.add_mul, Nat.one_mul]
    omega
/-- How many pairs there are, and their order. -/
theorem pair_facts {xs : List GStation} (h : goodL xs = true) : (2 * ((resPair xs).length : Int) = (xs.length : Int) * ((xs.length : Int) - 1)) ∧ ((resPair xs).length ≤ 110) ∧
    ∀ i, 0 < i → i < (resPair xs).length → ∃ a0 a1 a2 b0 b1 b2 : Int, (resPair xs)[i - 1]? = some [a0, a1, a2] ∧ (resPair xs)[i]? = some [b0, b1, b2] ∧ a2 ≤ b2 := by
  have hl := goodL_len h
  have e1 : resPair xs = (pairL xs).map rowP := by unfold resPair; rw [if_pos h]
  have e2 : (pairL xs).length = (fullP xs xs.length).length := (pairL_perm xs).length_eq
  have e3 := fullP_count xs xs.length (Nat.le_refl _)
  have e4 := fullP_len xs xs.length
  have e5 : xs.length * xs.length ≤ 10 * 10 := Nat.mul_le_mul hl hl
  refine ⟨?_, by rw [e1, List.length_map]; omega, fun i h0 hi => ?_⟩
  · rw [e1, List.length_map, e2]
    have e6 : xs.length * (xs.length + 1) = xs.length * xs.length + xs.length := by rw [Nat.mul_add, Nat.mul_one]
    have e7 : 2 * (fullP xs xs.length).length + xs.length = xs.length * xs.length := by omega
    have e8 : (2 * ((fullP xs xs.length).length : Int) + (xs.length : Int)) = (xs.length : Int) * (xs.length : Int) := by
      have := congrArg (fun n : Nat => (n : Int)) e7
      push_cast at this
      exact this
    rw [Int.mul_sub, Int.mul_one]
    omega
  · rw [e1, List.length_map] at hi
    obtain ⟨q, hq⟩ := get_of_lt hi
    obtain ⟨p, hp⟩ := get_of_lt (l := pairL xs) (k := i - 1) (by omega)
    rw [e1, List.getElem?_map, List.getElem?_map, hp, hq]
    refine ⟨_, _, _, _, _, _, rfl, rfl, ?_⟩
    have hs : (pairL xs).Pairwise (fun p q => leP p q = true) := List.pairwise_mergeSort (fun a b c h k => by rw [leP_iff] at *; omega) (fun a b => by rw [Bool.or_eq_true, leP_iff, leP_iff]; omega) _
    have hq' := List.getElem?_eq_some_iff.1 hq
    have hp' := List.getElem?_eq_some_iff.1 hp
    have := List.pairwise_iff_getElem.1 hs (i - 1) i hp'.1 hq'.1 (by omega)
    rw [hp'.2, hq'.2, leP_iff] at this
    omega
/-- A gap has no station. -/
theorem gap_facts {xs : List GStation} {x y : Int} (h : okGap xs x y = true) : (0 ≤ numGap xs x y ∧ numGap xs x y ≤ 3) ∧ ∀ s ∈ xs, ¬ (numGap xs x y = 0 ∧ x < s.pX ∧ y ≤ s.pY) ∧ ¬ (numGap xs x y = 2 ∧ s.pX < x ∧ s.pY ≤ y) := by
  unfold okGap pairGap at h
  unfold numGap pairGap
  split at h
  case isFalse => cases h
  rename_i hg
  rw [if_pos hg]
  have key : ∀ q : Int, hasQ x y q xs = false → ∀ s ∈ xs, quarterI (s.pX - x) (s.pY - y) ≠ q := by
    intro q hq s hs e
    unfold hasQ at hq
    rw [List.any_eq_false] at hq
    exact hq s hs (decide_eq_true e)
  have q0 : ∀ s : GStation, x < s.pX → y ≤ s.pY → quarterI (s.pX - x) (s.pY - y) = 0 := by
    intro s h1 h2
    unfold quarterI quarterR
    rw [if_pos (show 0 < s.pX - x ∧ 0 ≤ s.pY - y by omega)]
    rfl
  have q2 : ∀ s : GStation, s.pX < x → s.pY ≤ y → quarterI (s.pX - x) (s.pY - y) = 2 := by
    intro s h1 h2
    unfold quarterI quarterR
    rw [if_neg (show ¬ (0 < s.pX - x ∧ 0 ≤ s.pY - y) by omega), if_neg (show ¬ (s.pX - x ≤ 0 ∧ 0 < s.pY - y) by omega), if_pos (show s.pX - x < 0 ∧ s.pY - y ≤ 0 by omega)]
    rfl
  unfold gapR at h ⊢
  split
  · rename_i h0
    exact ⟨by simp, fun s hs => ⟨fun e => key 0 h0 s hs (q0 s e.2.1 e.2.2), fun e => by simp at e⟩⟩
  · split
    · exact ⟨by simp, fun s hs => ⟨fun e => by simp at e, fun e => by simp at e⟩⟩
    · split
      · rename_i h2
        exact ⟨by simp, fun s hs => ⟨fun e => by simp at e, fun e => key 2 h2 s hs (q2 s e.2.1 e.2.2)⟩⟩
      · split
        · exact ⟨by simp, fun s hs => ⟨fun e => by simp at e, fun e => by simp at e⟩⟩
        · simp_all
end Go.Proofs.Ytjiaejempfhheaa
