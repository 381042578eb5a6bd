/- Lists of pairs of numbers: what they read as; the laws' helpers on them. -/
import Derived.Test.YtklilfbokpljkabFlat
import Derived.Test.YtklilfbokpljkabInt
import Derived.Handy
import Derived.Deep.Slices
import Derived.Deep.Fields
import Derived.Laws.StructEq
import Derived.Deep.RegionHeld3
import Derived.ChangeKeysEq
namespace Go.Proofs.Ytklilfbokpljkab
open Go.ChangeShapes Go.WideShapes Go.ChangeAt Go.RowKit Go.ChangeMaps
set_option linter.unusedSimpArgs false
set_option linter.unusedVariables false

def encA2 (p : Int × Int) : List Value := [.int .i64 p.1, .int .i64 p.2]
theorem encA2_len : ∀ p, (encA2 p).length = 2 := fun _ => rfl
abbrev IntA2SL (w : World) (B : Nat) (v : Value) (xs : List (Int × Int)) : Prop := LstK encA2 2 w B v xs
abbrev IntA2SO (w : World) (L B : Nat) (v : Value) (xs : List (Int × Int)) : Prop := OwnK encA2 2 w L B v xs
theorem info_A2 : (Try.prog.info? 55).map (fun i => (i.zero, i.size, i.bytes)) = some (some (.agg #[.int .i64 0, .int .i64 0]), 2, 16) := by kernel_rfl
set_option maxHeartbeats 1000000 in
theorem eqIntA2_any (p : Int × Int) (w : World) :
    Calls Try.prog 84 #[.agg #[.int .i64 p.1, .int .i64 p.2], .agg #[.int .i64 p.1, .int .i64 p.2]] w fun e w' => e = .returned (.bool true) ∧ Below w.heap.size w w' := by
  obtain ⟨x, y⟩ := p
  have bx0 := (Bx.new w [.int .i64 x, .int .i64 y] 55).alloc (.cells #[.int .i64 x, .int .i64 y] 55)
  have bx1 := Bx.new1 w (.cells #[.int .i64 x, .int .i64 y] 55) [.int .i64 x, .int .i64 y] 55
  have hb : Below w.heap.size w ((w.alloc (.cells #[.int .i64 x, .int .i64 y] 55)).alloc (.cells #[.int .i64 x, .int .i64 y] 55)) := ((Below.refl _ w).alloc (Nat.le_refl _) _).alloc (by first | omega | (simp; done) | (simp; omega)) _
  go_enter Try.func84, Try.ntmps84
  go_wp2
  go_loopw [5] (fun i wr => (i = .int .i64 0 ∨ i = .int .i64 1 ∨ i = .int .i64 2) ∧ Bx wr w.heap.size [.int .i64 x, .int .i64 y] ∧ Bx wr (w.heap.size + 1) [.int .i64 x, .int .i64 y] ∧ Below w.heap.size w wr) (fun i _ => 2 - (intOf i).toNat)
  case atStart => exact ⟨Or.inl rfl, bx0, bx1, hb⟩
  case round =>
    obtain ⟨hi, b0, b1, hbl⟩ := hrel
    clear bx0 bx1 hb
    have c0 := b0.2 0 _ rfl
    have c1 := b0.2 1 _ rfl
    have d0 := b1.2 0 _ rfl
    have d1 := b1.2 1 _ rfl
    rcases hi with rfl | rfl | rfl
    · go_wp2
      go_quiet (fail)
      go_wp2
      go_roundw
      case rel => exact ⟨Or.inr (Or.inl (by go_num)), b0.drewN _, b1.drewN _, drewN_b hbl _⟩
      case measure => simp [intOf]
    · go_wp2
      go_quiet (fail)
      go_wp2
      go_roundw
      case rel => exact ⟨Or.inr (Or.inr (by go_num)), b0.drewN _, b1.drewN _, drewN_b hbl _⟩
      case measure => simp [intOf]
    · go_wp2
      go_ret
      exact ⟨rfl, hbl⟩
set_option maxHeartbeats 2000000 in
theorem eq_IntA2S (xs : List (Int × Int)) (v v2 : Value) (w : World) (B : Nat) (h : IntA2SL w B v xs) (h2 : IntA2SL w B v2 xs) (hB : B ≤ w.heap.size) :
    Calls Try.prog 36 #[v, v2] w fun e w' => e = .returned (.bool true) ∧ Below w.heap.size w w' := by
  obtain ⟨ao, cap, rfl, hcap, hmax, -, hc⟩ := h
  obtain ⟨ao2, cap2, rfl, hcap2, hmax2, -, hc2⟩ := h2
  unfold maxLen at hmax hmax2
  go_enter Try.func36, Try.ntmps36
  go_wp2
  go_loopw [5] (fun i wr => ∃ (k : Nat), k ≤ xs.length ∧ i = .int .i64 k ∧ Below w.heap.size w wr)
    (fun i _ => xs.length - (intOf i).toNat)
  case atStart => exact ⟨0, Nat.zero_le _, rfl, Below.refl _ _⟩
  case round =>
    obtain ⟨k, hk, rfl, hbl⟩ := hrel
    have hsz := hbl.size
    by_cases hlt : k < xs.length
    · obtain ⟨s, hs⟩ := get_of_lt hlt
      obtain ⟨b, off, rfl, hb, hcell⟩ := hc k s hs
      obtain ⟨b2, off2, rfl, hb2, hcell2⟩ := hc2 k s hs
      have c0 : wr.cell? ⟨b, off + k * 2, none⟩ = some (.int .i64 s.1) := cellOf hbl (by omega) (hcell 0 _ rfl)
      have c1 : wr.cell? ⟨b, off + k * 2 + 1, none⟩ = some (.int .i64 s.2) := cellOf hbl (by omega) (hcell 1 _ rfl)
      have d0 : wr.cell? ⟨b2, off2 + k * 2, none⟩ = some (.int .i64 s.1) := cellOf hbl (by omega) (hcell2 0 _ rfl)
      have d1 : wr.cell? ⟨b2, off2 + k * 2 + 1, none⟩ = some (.int .i64 s.2) := cellOf hbl (by omega) (hcell2 1 _ rfl)
      have hi0 : (0 : Int) ≤ (k : Int) := by omega
      have hi1 : (k : Int) < (xs.length : Int) := by omega
      have hbs : b < wr.heap.size := by omega
      have hbs2 : b2 < wr.heap.size := by omega
      clear hs hcell hcell2 hc hc2
      go_wp2
      go_region_held3 (fun w' => Below wr.heap.size wr w' ∧ w'.cell? ⟨b, off + k * 2, none⟩ = some (.int .i64 s.1) ∧ w'.cell? ⟨b, off + k * 2 + 1, none⟩ = some (.int .i64 s.2) ∧ w'.cell? ⟨b2, off2 + k * 2, none⟩ = some (.int .i64 s.1) ∧ w'.cell? ⟨b2, off2 + k * 2 + 1, none⟩ = some (.int .i64 s.2))
        (first
          | exact ⟨(Below.refl _ _).drew, c0, c1, d0, d1⟩
          | (have q := (Below.refl wr.heap.size wr).drew.trans hq; exact ⟨q, cellOf q hbs c0, cellOf q hbs c1, cellOf q hbs2 d0, cellOf q hbs2 d1⟩))
        (first | (go_at_call 84; refine (eqIntA2_any s _).mono ?_; rintro e w2 ⟨rfl, hq⟩))
      go_wp2
      go_roundw
      case rel => exact ⟨k + 1, by omega, by go_num, hbl.trans (((Below.refl wr.heap.size wr).drew.trans hq).mono (by omega))⟩
      case measure => simp [intOf]; omega
    · go_wp2
      go_ret
      exact ⟨rfl, hbl⟩
theorem runNeqA2 (x y : Int) (w : World) : Sem.run Try.prog (binOp .neq 55 (.agg #[.int .i64 x, .int .i64 y]) (.agg #[.int .i64 x, .int .i64 y])) w = .ok (.bool false) w := by
  have u3 := Try.underlying3
  have a3 := Try.isAgg3
  have z3 := Try.sizeOf3
  have hu : Try.prog.underlying 55 = some (.array 2 3) := by kernel_rfl
  have hi0 : (Try.prog.info? 3).isSome = true := by kernel_rfl
  obtain ⟨i, hi⟩ := Option.isSome_iff_exists.1 hi0
  have hc : Try.prog.cellsOf 3 = 1 := by kernel_rfl
  rw [run_neq_struct, show (10000 : Nat) = 9999 + 1 from rfl, run_equalIn_array w 9999 _ _ hu hi, hc, show List.range 2 = [0, 1] from rfl]
  simp only [Op.eqItems]
  go_simp
theorem runGdA2 (op : BinOp) (a b : Operand) (xs ys : Array Value) (w : World) : Sem.run Try.prog (eqGuard op 55 a b (.agg xs) (.agg ys)) w = .ok () w := run_eqGuard_agg w op _ a b xs ys (by kernel_rfl)
/-- Lists of pairs compared by the laws. -/
theorem vPairs_same (xs : List (Int × Int)) (v v2 : Value) (w : World) (B : Nat) (h : IntA2SL w B v xs) (h2 : IntA2SL w B v2 xs) (hB : B ≤ w.heap.size) :
    Calls Try.prog 45 #[v, v2] w fun e w' => e = .returned (.bool true) ∧ Below w.heap.size w w' := by
  obtain ⟨ao, cap, rfl, hcap, hmax, -, hc⟩ := h
  obtain ⟨ao2, cap2, rfl, hcap2, hmax2, -, hc2⟩ := h2
  unfold maxLen at hmax hmax2
  go_enter Try.func45, Try.ntmps45
  go_wp2
  go_loopw [5] (fun i wr => ∃ (k : Nat), k ≤ xs.length ∧ i = .int .i64 k ∧ Below w.heap.size w wr)
    (fun i _ => xs.length - (intOf i).toNat)
  case atStart => exact ⟨0, Nat.zero_le _, rfl, Below.refl _ _⟩
  case round =>
    obtain ⟨k, hk, rfl, hbl⟩ := hrel
    have hsz := hbl.size
    by_cases hlt : k < xs.length
    · obtain ⟨s, hs⟩ := get_of_lt hlt
      obtain ⟨b, off, rfl, hb, hcell⟩ := hc k s hs
      obtain ⟨b2, off2, rfl, hb2, hcell2⟩ := hc2 k s hs
      have c0 : wr.cell? ⟨b, off + k * 2, none⟩ = some (.int .i64 s.1) := cellOf hbl (by omega) (hcell 0 _ rfl)
      have c1 : wr.cell? ⟨b, off + k * 2 + 1, none⟩ = some (.int .i64 s.2) := cellOf hbl (by omega) (hcell 1 _ rfl)
      have d0 : wr.cell? ⟨b2, off2 + k * 2, none⟩ = some (.int .i64 s.1) := cellOf hbl (by omega) (hcell2 0 _ rfl)
      have d1 : wr.cell? ⟨b2, off2 + k * 2 + 1, none⟩ = some (.int .i64 s.2) := cellOf hbl (by omega) (hcell2 1 _ rfl)
      have hi0 : (0 : Int) ≤ (k : Int) := by omega
      have hi1 : (k : Int) < (xs.length : Int) := by omega
      clear hs hcell hcell2 hc hc2
      have hne := fun w => runNeqA2 s.1 s.2 w
      have hgd := fun op a b w => runGdA2 op a b #[.int .i64 s.1, .int .i64 s.2] #[.int .i64 s.1, .int .i64 s.2] w
      go_wp2
      go_quiet (fail)
      go_wp2
      go_roundw
      case rel => exact ⟨k + 1, by omega, by go_num, drewN_b hbl _⟩
      case measure => simp [intOf]; omega
    · go_wp2
      go_ret
      exact ⟨rfl, hbl⟩
def mkA2 (k : Int) : Int × Int := (k, k + 1)
def marksIntA2S (k : Int) (n : Nat) : List (Int × Int) := (List.range n).map fun (i : Nat) => mkA2 (k + 2 * i)
theorem marksA2_get {k : Int} {n i : Nat} (h : i < n) : (marksIntA2S k n)[i]? = some (mkA2 (k + 2 * i)) := by simp [marksIntA2S, h]
theorem marksA2_len (k : Int) (n : Nat) : (marksIntA2S k n).length = n := by simp [marksIntA2S]
theorem eq_marksA2 {k : Int} {n : Nat} {cs : List (Int × Int)} (hl : cs.length = n) (h : ∀ i, i < n → cs[i]? = some (mkA2 (k + 2 * i))) : cs = marksIntA2S k n := by
  apply List.ext_getElem?
  intro i
  by_cases hi : i < n
  · rw [h i hi, marksA2_get hi]
  · rw [List.getElem?_eq_none (by omega), List.getElem?_eq_none (by rw [marksA2_len]; omega)]
/-- A pair whose first m numbers have been marked. -/
def partA2 (q : Int) (p : Int × Int) : Nat → Int × Int
  | 0 => p
  | 1 => (q, p.2)
  | _ => (q, q + 1)
set_option maxHeartbeats 2000000 in
theorem mark_IntA2S (ss : List (Int × Int)) (v : Value) (k : Int) (w : World) (L B : Nat) (h : IntA2SO w L B v ss) (hB : B ≤ w.heap.size) (hn : ss.length ≤ 1048576) (h0 : 0 ≤ k) (h1 : k ≤ 100000000000) :
    Calls Try.prog 37 #[v, .int .i64 k] w fun e w' => e = .returned (.int .i64 (k + 2 * ss.length)) ∧ IntA2SO w' L B v (marksIntA2S k ss.length) ∧ Upd L B w w' := by
  obtain ⟨ao, cap, rfl, hcap, hmax, -, hc⟩ := id h
  go_enter Try.func37, Try.ntmps37
  go_wp2
  go_loopw [1, 5, 6] (fun m i j wr => ∃ (a : Nat) (cs : List (Int × Int)), a ≤ ss.length ∧ i = .int .i64 a ∧ m = .int .i64 (k + 2 * a) ∧ cs.length = ss.length ∧ (∀ i, i < a → cs[i]? = some (mkA2 (k + 2 * i))) ∧ IntA2SO wr L B (.slice ao ss.length cap) cs ∧ Upd L B w wr)
    (fun _ i _ _ => ss.length - (intOf i).toNat)
  case atStart => exact ⟨0, ss, Nat.zero_le _, rfl, by simp, rfl, fun i hi => by omega, h, Upd.refl _ _ _⟩
  case round =>
    obtain ⟨a, cs, ha, rfl, rfl, hl, hm, hown, hbl⟩ := hrel
    clear hc h
    by_cases hlt : a < ss.length
    · obtain ⟨s, hs⟩ := get_of_lt (l := cs) (k := a) (by omega)
      have hl' := Lib.hid hl
      have HM := Lib.hid hm
      have HH := Lib.hid hs
      obtain ⟨b, off, hao, -, -, -, -, -⟩ : ∃ b off, ao = some ⟨b, off, none⟩ ∧ True ∧ True ∧ True ∧ True ∧ True := by
        obtain ⟨ao', cap', hv', _, _, _, hc'⟩ := id hown
        simp only [Value.slice.injEq] at hv'
        obtain ⟨rfl, -, rfl⟩ := hv'
        obtain ⟨b, off, e, _⟩ := hc' a s hs
        exact ⟨b, off, e, trivial, trivial, trivial, trivial, trivial⟩
      subst hao
      clear hl hs hm
      have hj0 : (0 : Int) ≤ (a : Int) := by omega
      have hj1 : (a : Int) < (ss.length : Int) := by omega
      have hj2 : (a : Int) < 1048576 := by omega
      generalize hq : (k + 2 * (a : Int)) = q at *
      have HQ := Lib.hid hq
      have hq0 : 0 ≤ q := by omega
      have hq1 : q ≤ 101000000000 := by omega
      clear hq
      rename_i wo
      have R0 : IntA2SO wr L B (.slice (some ⟨b, off, none⟩) ss.length cap) (cs.set a (partA2 q s 0)) := by
        have e : cs.set a (partA2 q s 0) = cs := by
          show cs.set a s = cs
          apply List.ext_getElem?
          intro i
          by_cases e : a = i
          · subst e; rw [List.getElem?_set_self (by rw [hl'.out]; omega), HH.out]
          · rw [List.getElem?_set_ne e]
        rw [e]; exact hown
      have HR0 := Lib.hid R0
      have HU0 := Lib.hid hbl
      clear R0 hown hbl
      go_wp2
      rename World => wo2
      go_loopw [1, 6] (fun m j wr => ∃ (t : Nat), t ≤ 2 ∧ j = .int .i64 t ∧ m = .int .i64 (q + t) ∧ IntA2SO wr L B (.slice (some ⟨b, off, none⟩) ss.length cap) (cs.set a (partA2 q s t)) ∧ Upd L B w wr)
        (fun _ j _ => 2 - (intOf j).toNat)
      case atStart => exact ⟨0, by omega, rfl, by simp, HR0.out, HU0.out⟩
      case round =>
        obtain ⟨t, ht, rfl, rfl, R, U⟩ := hrel
        clear HR0 HU0
        have G : (cs.set a (partA2 q s t))[a]? = some (partA2 q s t) := List.getElem?_set_self (by rw [hl'.out]; omega)
        obtain ⟨hLb, hb, hbz, hce, hfr⟩ := R.at G
        have f0 := hfr (off + a * 2)
        have f1 := hfr (off + a * 2 + 1)
        clear hfr
        rcases (show t = 0 ∨ t = 1 ∨ t = 2 by omega) with rfl | rfl | rfl
        · have c0 : wr.cell? ⟨b, off + a * 2, none⟩ = some (.int .i64 s.1) := hce 0 _ rfl
          have R1 := Lib.hid (OwnK.set encA2_len R (m := 0) rfl G (by omega) (y := partA2 q s 1) (u := .int .i64 q) rfl)
          have U1 := Lib.hid (U.setCell (p := ⟨b, off + a * 2, none⟩) hLb hb (.int .i64 q))
          clear R U G hce
          go_wp2
          go_roundw
          case rel => exact ⟨1, by omega, by go_num, by go_num, by have := R1.out; simpa [List.set_set] using this, by have := U1.out; simpa using this⟩
          case measure => simp [intOf]
        · have c1 : wr.cell? ⟨b, off + a * 2 + 1, none⟩ = some (.int .i64 s.2) := hce 1 _ rfl
          have R1 := Lib.hid (OwnK.set encA2_len R (m := 1) rfl G (by omega) (y := partA2 q s 2) (u := .int .i64 (q + 1)) rfl)
          have U1 := Lib.hid (U.setCell (p := ⟨b, off + a * 2 + 1, none⟩) hLb hb (.int .i64 (q + 1)))
          clear R U G hce
          go_wp2
          go_roundw
          case rel => exact ⟨2, by omega, by go_num, by go_num, by have := R1.out; simpa [List.set_set] using this, by have := U1.out; simpa using this⟩
          case measure => simp [intOf]
        · clear hce G
          go_wp2
          go_roundw
          case rel =>
            refine ⟨a + 1, _, by omega, by go_num, (by have e := HQ.out; simp only [Value.int.injEq, true_and]; omega), by rw [List.length_set]; exact hl'.out, ?_, R, U⟩
            intro i hi
            by_cases hij : a = i
            · subst hij; rw [HQ.out, List.getElem?_set_self (by rw [hl'.out]; omega)]; rfl
            · rw [List.getElem?_set_ne hij]; exact HM.out i (by omega)
          case measure => simp [intOf]; omega
    · obtain rfl : a = ss.length := by omega
      have hcm := eq_marksA2 hl hm
      have HC := Lib.hid hcm
      clear hcm hl hm
      go_wp2
      go_ret
      refine ⟨rfl, ?_, hbl⟩
      rw [← HC.out]; exact hown
set_option maxHeartbeats 2000000 in
theorem held_IntA2S (xs : List (Int × Int)) (v : Value) (k : Int) (w : World) (B : Nat) (h : IntA2SL w B v (marksIntA2S k xs.length)) (hB : B ≤ w.heap.size) (hn : xs.length ≤ 1048576) (h0 : 0 ≤ k) (h1 : k ≤ 100000000000) :
    Calls Try.prog 38 #[v, .int .i64 k] w fun e w' => e = .returned (.int .i64 (k + 2 * xs.length)) ∧ Below w.heap.size w w' := by
  generalize xs.length = n at *
  obtain ⟨ao, cap, rfl, hcap, hmax, -, hc⟩ := h
  rw [marksA2_len] at hcap ⊢
  unfold maxLen at hmax
  go_enter Try.func38, Try.ntmps38
  go_wp2
  go_loopw [1, 5, 6] (fun m i j wr => ∃ (a : Nat), a ≤ n ∧ i = .int .i64 a ∧ m = .int .i64 (k + 2 * a) ∧ Below w.heap.size w wr)
    (fun _ i _ _ => n - (intOf i).toNat)
  case atStart => exact ⟨0, Nat.zero_le _, rfl, by simp, Below.refl _ _⟩
  case round =>
    obtain ⟨a, ha, rfl, rfl, hbl⟩ := hrel
    have hsz := hbl.size
    by_cases hlt : a < n
    · obtain ⟨b, off, rfl, hb, hcell⟩ := hc a _ (marksA2_get hlt)
      clear hc
      generalize hq : (k + 2 * (a : Int)) = q at *
      have HQ := Lib.hid hq
      have hq0 : 0 ≤ q := by omega
      have hq1 : q ≤ 101000000000 := by omega
      have hi0 : (0 : Int) ≤ (a : Int) := by omega
      have hi1 : (a : Int) < (n : Int) := by omega
      clear hq
      have c0 : Hid (∀ W, Below w.heap.size w W → W.cell? ⟨b, off + a * 2, none⟩ = some (.int .i64 q)) := Lib.hid (fun W g => cellOf g (by omega) (hcell 0 _ rfl))
      have c1 : Hid (∀ W, Below w.heap.size w W → W.cell? ⟨b, off + a * 2 + 1, none⟩ = some (.int .i64 (q + 1))) := Lib.hid (fun W g => cellOf g (by omega) (hcell 1 _ rfl))
      have hbs : b < w.heap.size := by omega
      clear hcell
      go_wp2
      rename World => wo
      go_loopw [1, 6] (fun m j wr => ∃ (t : Nat), t ≤ 2 ∧ j = .int .i64 t ∧ m = .int .i64 (q + t) ∧ Below w.heap.size w wr)
        (fun _ j _ => 2 - (intOf j).toNat)
      case atStart => exact ⟨0, by omega, rfl, by simp, hbl⟩
      case round =>
        obtain ⟨t, ht, rfl, rfl, hbl2⟩ := hrel
        have e0 := c0.out wr hbl2
        have e1 := c1.out wr hbl2
        rcases (show t = 0 ∨ t = 1 ∨ t = 2 by omega) with rfl | rfl | rfl
        · go_wp2
          go_roundw
          case rel => exact ⟨1, by omega, by go_num, by go_num, hbl2⟩
          case measure => simp [intOf]
        · go_wp2
          go_roundw
          case rel => exact ⟨2, by omega, by go_num, by go_num, hbl2⟩
          case measure => simp [intOf]
        · go_wp2
          go_roundw
          case rel => exact ⟨a + 1, by omega, by go_num, (by have e := HQ.out; simp only [Value.int.injEq, true_and]; omega), hbl2⟩
          case measure => simp [intOf]; omega
    · obtain rfl : a = n := by omega
      go_wp2
      go_ret
      exact ⟨rfl, hbl⟩
end Go.Proofs.Ytklilfbokpljkab
