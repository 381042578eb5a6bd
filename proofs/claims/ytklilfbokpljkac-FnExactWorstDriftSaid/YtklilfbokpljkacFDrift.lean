/- Drift: what it reads as; the laws' helpers on it and on slices of it. -/
import Derived.Test.YtklilfbokpljkacFlat
import Derived.Handy
import Derived.Deep.Slices
import Derived.Deep.Fields
namespace Go.Proofs.Ytklilfbokpljkac
open Go.ChangeShapes Go.WideShapes Go.ChangeAt Go.RowKit Go.ChangeMaps
set_option linter.unusedSimpArgs false
set_option linter.unusedVariables false

structure GDrift where
  pNum : Int
  pDen : Int
def encDrift (s : GDrift) : List Value := [.int .i64 s.pNum, .int .i64 s.pDen]
theorem encDrift_len : ∀ s, (encDrift s).length = 2 := fun _ => rfl
def zeroDrift : GDrift := ⟨0, 0⟩
abbrev DriftL (w : World) (B : Nat) (v : Value) (xs : List GDrift) : Prop := LstK encDrift 2 w B v xs
abbrev DriftO (w : World) (L B : Nat) (v : Value) (xs : List GDrift) : Prop := OwnK encDrift 2 w L B v xs
def sz1Drift (s : GDrift) : Nat := 0
def szsDrift (xs : List GDrift) : Nat := (xs.map fun s => 1 + sz1Drift s).sum
theorem szsDrift_len (xs : List GDrift) : xs.length ≤ szsDrift xs := by
  unfold szsDrift
  induction xs with
  | nil => simp
  | cons a l ih => simp only [List.map_cons, List.sum_cons, List.length_cons]; omega
theorem szsDrift_mem {xs : List GDrift} {s : GDrift} (h : s ∈ xs) : sz1Drift s ≤ szsDrift xs := by
  unfold szsDrift
  induction xs with
  | nil => simp at h
  | cons a l ih =>
    simp only [List.map_cons, List.sum_cons]
    rcases List.mem_cons.1 h with rfl | h
    · omega
    · have := ih h; omega
theorem szsDrift_split (xs : List GDrift) : szsDrift xs = xs.length := by
  unfold szsDrift
  induction xs with
  | nil => simp
  | cons a l ih => rw [List.map_cons, List.sum_cons, List.length_cons, ih]; unfold sz1Drift; omega

/-- One of them by value. -/
def DriftV (v : Value) (s : GDrift) : Prop := v = .agg #[.int .i64 s.pNum, .int .i64 s.pDen]
set_option maxHeartbeats 800000 in
theorem eqDrift_any (s : GDrift) (w : World) :
    Calls Try.prog 108 #[.agg #[.int .i64 s.pNum, .int .i64 s.pDen], .agg #[.int .i64 s.pNum, .int .i64 s.pDen]] w fun e w' => e = .returned (.bool true) ∧ Below w.heap.size w w' := by
  go_enter Try.func108, Try.ntmps108
  go_wp2
  go_ret
  exact ⟨rfl, ((Below.refl _ w).alloc (Nat.le_refl _) _).alloc (by first | omega | (simp; done) | (simp; omega)) _⟩

theorem info_Drift : (Try.prog.info? 75).map (fun i => (i.zero, i.size, i.bytes)) = some (some (.agg #[.int .i64 0, .int .i64 0]), 2, 16) := by kernel_rfl
set_option maxHeartbeats 2000000 in
theorem eqDriftS_any (xs : List GDrift) (v v2 : Value) (w : World) (B : Nat) (h : DriftL w B v xs) (h2 : DriftL w B v2 xs) (hB : B ≤ w.heap.size) :
    Calls Try.prog 53 #[v, v2] w fun e w' => e = .returned (.bool true) ∧ Below w.heap.size w w' := by
  obtain ⟨ao, cap, rfl, hcap, hmax, -, hc⟩ := h
  obtain ⟨ao2, cap2, rfl, hcap2, hmax2, -, hc2⟩ := h2
  unfold maxLen at hmax hmax2
  go_enter Try.func53, Try.ntmps53
  go_wp2
  go_loopw [5] (fun i wr => ∃ (k : Nat), k ≤ xs.length ∧ i = .int .i64 k ∧ Below w.heap.size w wr)
    (fun i _ => xs.length - (intOf i).toNat)
  case atStart => exact ⟨0, Nat.zero_le _, rfl, Below.refl _ _⟩
  case round =>
    obtain ⟨k, hk, rfl, hbl⟩ := hrel
    have hsz := hbl.size
    by_cases hlt : k < xs.length
    · obtain ⟨s, hs⟩ := get_of_lt hlt
      obtain ⟨b, off, rfl, hb, hcell⟩ := hc k s hs
      obtain ⟨b2, off2, rfl, hb2, hcell2⟩ := hc2 k s hs
      have c0 : wr.cell? ⟨b, off + k * 2, none⟩ = some (.int .i64 s.pNum) := cellOf hbl (by omega) (hcell 0 _ rfl)
      have c1 : wr.cell? ⟨b, off + k * 2 + 1, none⟩ = some (.int .i64 s.pDen) := cellOf hbl (by omega) (hcell 1 _ rfl)
      have d0 : wr.cell? ⟨b2, off2 + k * 2, none⟩ = some (.int .i64 s.pNum) := cellOf hbl (by omega) (hcell2 0 _ rfl)
      have d1 : wr.cell? ⟨b2, off2 + k * 2 + 1, none⟩ = some (.int .i64 s.pDen) := cellOf hbl (by omega) (hcell2 1 _ rfl)
      have hi0 : (0 : Int) ≤ (k : Int) := by omega
      have hi1 : (k : Int) < (xs.length : Int) := by omega
      have hbs : b < wr.heap.size := by omega
      have hbs2 : b2 < wr.heap.size := by omega
      clear hs hcell hcell2 hc hc2
      go_wp2
      go_region_held3 (fun w' => Below wr.heap.size wr w' ∧ w'.cell? ⟨b, off + k * 2, none⟩ = some (.int .i64 s.pNum) ∧ w'.cell? ⟨b, off + k * 2 + 1, none⟩ = some (.int .i64 s.pDen) ∧ w'.cell? ⟨b2, off2 + k * 2, none⟩ = some (.int .i64 s.pNum) ∧ w'.cell? ⟨b2, off2 + k * 2 + 1, none⟩ = some (.int .i64 s.pDen))
        (first
          | exact ⟨(Below.refl _ _).drew, c0, c1, d0, d1⟩
          | (have q := (Below.refl wr.heap.size wr).drew.trans hq; exact ⟨q, cellOf q hbs c0, cellOf q hbs c1, cellOf q hbs2 d0, cellOf q hbs2 d1⟩))
        (first | (go_at_call 108; refine (eqDrift_any s _).mono ?_; rintro e w2 ⟨rfl, hq⟩))
      go_wp2
      go_roundw
      case rel => exact ⟨k + 1, by omega, by go_num, hbl.trans (((Below.refl wr.heap.size wr).drew.trans hq).mono (by omega))⟩
      case measure => simp [intOf]; omega
    · go_wp2
      go_ret
      exact ⟨rfl, hbl⟩
def mkDrift (k : Int) : GDrift := ⟨k, k + 1⟩
def marksDrift (k : Int) (n : Nat) : List GDrift := (List.range n).map fun (i : Nat) => mkDrift (k + 2 * i)
theorem marksDrift_get {k : Int} {n i : Nat} (h : i < n) : (marksDrift k n)[i]? = some (mkDrift (k + 2 * i)) := by simp [marksDrift, h]
theorem marksDrift_len (k : Int) (n : Nat) : (marksDrift k n).length = n := by simp [marksDrift]
theorem eq_marksDrift {k : Int} {n : Nat} {cs : List GDrift} (hl : cs.length = n) (h : ∀ i, i < n → cs[i]? = some (mkDrift (k + 2 * i))) : cs = marksDrift k n := by
  apply List.ext_getElem?
  intro i
  by_cases hi : i < n
  · rw [h i hi, marksDrift_get hi]
  · rw [List.getElem?_eq_none (by omega), List.getElem?_eq_none (by rw [marksDrift_len]; omega)]
set_option maxHeartbeats 2000000 in
theorem markDriftS_any (ss : List GDrift) (v : Value) (k : Int) (w : World) (L B : Nat) (h : DriftO w L B v ss) (hB : B ≤ w.heap.size) (hn : ss.length ≤ 1048576) (h0 : 0 ≤ k) (h1 : k ≤ 100000000000) :
    Calls Try.prog 56 #[v, .int .i64 k] w fun e w' => e = .returned (.int .i64 (k + 2 * ss.length)) ∧ DriftO w' L B v (marksDrift k ss.length) ∧ Upd L B w w' := by
  obtain ⟨ao, cap, rfl, hcap, hmax, -, hc⟩ := id h
  go_enter Try.func56, Try.ntmps56
  go_wp2
  go_loopw [1, 5] (fun m i wr => ∃ (j : Nat) (cs : List GDrift), j ≤ ss.length ∧ i = .int .i64 j ∧ m = .int .i64 (k + 2 * j) ∧ cs.length = ss.length ∧ (∀ i, i < j → cs[i]? = some (mkDrift (k + 2 * i))) ∧ DriftO wr L B (.slice ao ss.length cap) cs ∧ Upd L B w wr)
    (fun _ i _ => ss.length - (intOf i).toNat)
  case atStart => exact ⟨0, ss, Nat.zero_le _, rfl, by simp, rfl, fun i hi => by omega, h, Upd.refl _ _ _⟩
  case round =>
    obtain ⟨j, cs, hj, rfl, rfl, hl, hm, hown, hbl⟩ := hrel
    clear hc h
    by_cases hlt : j < ss.length
    · obtain ⟨s, hs⟩ := get_of_lt (l := cs) (k := j) (by omega)
      obtain ⟨ao', cap', hv', _, _, _, hc'⟩ := id hown
      have hl' := Lib.hid hl
      simp only [Value.slice.injEq] at hv'
      obtain ⟨rfl, -, rfl⟩ := hv'
      obtain ⟨b, off, rfl, hLb, hb, hbz, hcell, hfr⟩ := hc' j s hs
      have HM := Lib.hid hm
      have HH := Lib.hid hs
      clear hl hs hc' hm
      have hj1 : (j : Int) < 1048576 := by omega
      have c0 : wr.cell? ⟨b, off + j * 2, none⟩ = some (.int .i64 s.pNum) := hcell 0 _ rfl
      have c1 : wr.cell? ⟨b, off + j * 2 + 1, none⟩ = some (.int .i64 s.pDen) := hcell 1 _ rfl
      generalize hq : (k + 2 * (j : Int)) = q at *
      have HQ := Lib.hid hq
      have hq0 : 0 ≤ q := by omega
      have hq1 : q ≤ 101000000000 := by omega
      clear hq
      have hBr : B ≤ wr.heap.size := Nat.le_trans hB hbl.size
      have R0 := Lib.hid hown
      have G0 := Lib.hid HH.out
      have U0 := Lib.hid hbl
      clear hown hbl
      have R1 := Lib.hid (OwnK.set encDrift_len R0.out (m := 0) rfl G0.out (by omega) (y := ⟨q, s.pDen⟩) (u := .int .i64 (q)) rfl)
      have G1 := Lib.hid (get_set_self (y := (⟨q, s.pDen⟩ : GDrift)) G0.out)
      have U1 := Lib.hid (Upd.setCell U0.out (p := ⟨b, off + j * 2, none⟩) hLb hb (.int .i64 (q)))
      clear R0 G0 U0
      have R2 := Lib.hid (OwnK.set encDrift_len R1.out (m := 1) rfl G1.out (by omega) (y := ⟨q, q + 1⟩) (u := .int .i64 (q + 1)) rfl)
      have G2 := Lib.hid (get_set_self (y := (⟨q, q + 1⟩ : GDrift)) G1.out)
      have U2 := Lib.hid (Upd.setCell U1.out (p := ⟨b, off + j * 2 + 1, none⟩) hLb hb (.int .i64 (q + 1)))
      clear R1 G1 U1
      go_wp2
      clear hfr hcell
      go_roundw
      case rel =>
        refine ⟨j + 1, ((cs.set j ⟨q, s.pDen⟩).set j ⟨q, q + 1⟩), by omega, by go_num, (by have e := HQ.out; simp only [Value.int.injEq, true_and]; omega), by simp [hl'.out], ?_, R2.out, U2.out⟩
        intro i hi
        by_cases hij : j = i
        · subst hij; rw [HQ.out]; exact G2.out
        · simp only [List.getElem?_set_ne hij]; exact HM.out i (by omega)
      case measure => simp [intOf]; omega
    · obtain rfl : j = ss.length := by omega
      have hcm := eq_marksDrift hl hm
      have HC := Lib.hid hcm
      clear hcm hl hm
      go_wp2
      go_ret
      refine ⟨rfl, ?_, hbl⟩
      rw [← HC.out]; exact hown
set_option maxRecDepth 100000 in
set_option maxHeartbeats 2000000 in
theorem heldDriftS_any (n : Nat) (v : Value) (k : Int) (w : World) (B : Nat) (h : DriftL w B v (marksDrift k n)) (hB : B ≤ w.heap.size) (hn : n ≤ 1048576) (h0 : 0 ≤ k) (h1 : k ≤ 100000000000) :
    Calls Try.prog 57 #[v, .int .i64 k] w fun e w' => e = .returned (.int .i64 (k + 2 * n)) ∧ Below w.heap.size w w' := by
  obtain ⟨ao, cap, rfl, hcap, hmax, -, hc⟩ := h
  rw [marksDrift_len] at hcap ⊢
  unfold maxLen at hmax
  go_enter Try.func57, Try.ntmps57
  go_wp2
  go_loopw [1, 5] (fun m i wr => ∃ (j : Nat), j ≤ n ∧ i = .int .i64 j ∧ m = .int .i64 (k + 2 * j) ∧ Below w.heap.size w wr)
    (fun _ i _ => n - (intOf i).toNat)
  case atStart => exact ⟨0, Nat.zero_le _, rfl, by simp, Below.refl _ _⟩
  case round =>
    obtain ⟨j, hj, rfl, rfl, hbl⟩ := hrel
    have hsz := hbl.size
    by_cases hlt : j < n
    · obtain ⟨b, off, rfl, hb, hcell⟩ := hc j _ (marksDrift_get hlt)
      clear hc
      generalize hq : (k + 2 * (j : Int)) = q at *
      have HQ := Lib.hid hq
      have hq0 : 0 ≤ q := by omega
      have hq1 : q ≤ 101000000000 := by omega
      have hi0 : (0 : Int) ≤ (j : Int) := by omega
      have hi1 : (j : Int) < (n : Int) := by omega
      clear hq
      have c0 : wr.cell? ⟨b, off + j * 2, none⟩ = some (.int .i64 (q)) := cellOf hbl (by omega) (hcell 0 _ rfl)
      have c1 : wr.cell? ⟨b, off + j * 2 + 1, none⟩ = some (.int .i64 (q + 1)) := cellOf hbl (by omega) (hcell 1 _ rfl)
      have hbs0 : b < wr.heap.size := by omega
      clear hcell
      go_wp2
      go_roundw
      case rel => exact ⟨j + 1, by omega, by go_num, (by have e := HQ.out; simp only [Value.int.injEq, true_and]; omega), hbl⟩
      case measure => simp [intOf]; omega
    · obtain rfl : j = n := by omega
      go_wp2
      go_ret
      exact ⟨rfl, hbl⟩
theorem oneDrift (xs : List GDrift) : ∀ u ∈ xs.flatMap encDrift, u.oneCell' = true := by
  intro u hu
  obtain ⟨x, _, hx⟩ := List.mem_flatMap.1 hu
  simp only [encDrift, List.mem_cons, List.not_mem_nil, or_false] at hx
  rcases hx with rfl | rfl <;> rfl
def wfDrift (s : GDrift) : Prop := I64 s.pNum ∧ I64 s.pDen
/-- One of them, by value. -/
def DriftVL (_ : World) (_ : Nat) (v : Value) (s : GDrift) : Prop := v = .agg #[.int .i64 s.pNum, .int .i64 s.pDen]
def DriftVO (_ : World) (_ _ : Nat) (v : Value) (s : GDrift) : Prop := v = .agg #[.int .i64 s.pNum, .int .i64 s.pDen]
theorem DriftVO.lst {w : World} {L B : Nat} {v : Value} {s : GDrift} (h : DriftVO w L B v s) : DriftVL w B v s := h
theorem DriftVL.below {w w' : World} {B : Nat} {v : Value} {s : GDrift} (h : DriftVL w B v s) (_ : Below B w w') : DriftVL w' B v s := h
theorem DriftVL.mono {w : World} {B B' : Nat} {v : Value} {s : GDrift} (h : DriftVL w B v s) (_ : B ≤ B') : DriftVL w B' v s := h
theorem DriftVO.below {w w' : World} {L B : Nat} {v : Value} {s : GDrift} (h : DriftVO w L B v s) (_ : Below B w w') : DriftVO w' L B v s := h
theorem DriftVO.mono {w : World} {L B L' B' : Nat} {v : Value} {s : GDrift} (h : DriftVO w L B v s) (_ : L' ≤ L) (_ : B ≤ B') : DriftVO w L' B' v s := h
theorem DriftVO.high {w w' : World} {L B L' U' : Nat} {v : Value} {s : GDrift} (h : DriftVO w L B v s) (_ : Upd L' U' w w') (_ : U' ≤ L) : DriftVO w' L B v s := h
theorem DriftVL.form {w : World} {B : Nat} {v : Value} {s : GDrift} (h : DriftVL w B v s) : v = .agg #[.int .i64 s.pNum, .int .i64 s.pDen] := h
theorem DriftVO.form {w : World} {L B : Nat} {v : Value} {s : GDrift} (h : DriftVO w L B v s) : v = .agg #[.int .i64 s.pNum, .int .i64 s.pDen] := h
theorem eq_Drift (s : GDrift) (v v2 : Value) (w : World) (B : Nat) (h : DriftVL w B v s) (h2 : DriftVL w B v2 s) (_ : B ≤ w.heap.size) :
    Calls Try.prog 108 #[v, v2] w fun e w' => e = .returned (.bool true) ∧ Below w.heap.size w w' := by
  obtain rfl := h.form
  obtain rfl := h2.form
  exact eqDrift_any s w
theorem eq_DriftS (xs : List GDrift) (v v2 : Value) (w : World) (B : Nat) (h : DriftL w B v xs) (h2 : DriftL w B v2 xs) (hB : B ≤ w.heap.size) :
    Calls Try.prog 53 #[v, v2] w fun e w' => e = .returned (.bool true) ∧ Below w.heap.size w w' := eqDriftS_any xs v v2 w B h h2 hB
theorem mark_DriftS (xs : List GDrift) (v : Value) (k : Int) (w : World) (L B : Nat) (h : DriftO w L B v xs) (hB : B ≤ w.heap.size) (hn : szsDrift xs ≤ 1048576) (h0 : 0 ≤ k) (h1 : k ≤ 100000000000) :
    Calls Try.prog 56 #[v, .int .i64 k] w fun e w' => e = .returned (.int .i64 (k + 2 * xs.length)) ∧ DriftO w' L B v (marksDrift k xs.length) ∧ Upd L B w w' := markDriftS_any xs v k w L B h hB (Nat.le_trans (szsDrift_len xs) hn) h0 h1
theorem held_DriftS (xs : List GDrift) (v : Value) (k : Int) (w : World) (B : Nat) (h : DriftL w B v (marksDrift k xs.length)) (hB : B ≤ w.heap.size) (hn : szsDrift xs ≤ 1048576) (h0 : 0 ≤ k) (h1 : k ≤ 100000000000) :
    Calls Try.prog 57 #[v, .int .i64 k] w fun e w' => e = .returned (.int .i64 (k + 2 * xs.length)) ∧ Below w.heap.size w w' := heldDriftS_any xs.length v k w B h hB (Nat.le_trans (szsDrift_len xs) hn) h0 h1
end Go.Proofs.Ytklilfbokpljkac
