/- Models of the ground: the program's tests of models, distances, layers; ModelDepth. -/
import Derived.Test.YtklilfbokpljkaaErI
import Derived.Test.YtklilfbokpljkaaErA
namespace Go.Proofs.Ytklilfbokpljkaa
open Go.ChangeShapes Go.WideShapes Go.ChangeAt Go.RowKit Go.ChangeMaps Go.Sort
set_option linter.unusedSimpArgs false
set_option linter.unusedVariables false
set_option linter.unusedSimpArgs false
set_option linter.unusedVariables false

set_option maxRecDepth 100000 in
set_option maxHeartbeats 4000000 in
theorem implGoodE (xs : List GEarth) (v : Value) (u : Bool) (w : World) (B : Nat) (h : EarthL w B v xs) (hB : B ≤ w.heap.size) (hn : xs.length ≤ 1048576) (hu : goodE xs = u) :
    Calls Try.prog 35 #[v] w fun e w' => e = .returned (.bool u) ∧ Below w.heap.size w w' := by
  have HR := Lib.hid hu
  obtain ⟨ao, cap, rfl, hcap, hmax, -, hc⟩ := h
  have HC := Lib.hid hc
  clear hc hu
  have N0 : Below w.heap.size w (w.alloc (.cells #[.int .i64 xs.length] 3)) := (Below.refl _ w).alloc (Nat.le_refl _) _
  have b0 : Bx (w.alloc (.cells #[.int .i64 xs.length] 3)) w.heap.size [.int .i64 xs.length] := Bx.new w [.int .i64 xs.length] 3
  by_cases hl : 1 ≤ xs.length ∧ xs.length ≤ 5
  case neg =>
    have CI := Lib.hid (withinOne 1 5 (xs.length : Int) w.heap.size false _ b0 (decide_eq_false (by omega)))
    have HF : Hid (false = u) := Lib.hid (by rw [← HR.out]; exact (goodE_no fun g => hl g.1).symm)
    go_enter Try.func35, Try.ntmps35
    go_wp2_with fail
    refine CI.out.mono ?_
    rintro e w1 ⟨rfl, hw⟩
    subst hw
    go_wp2
    go_ret
    exact ⟨ret_bool HF.out, N0⟩
  have CI := Lib.hid (withinOne 1 5 (xs.length : Int) w.heap.size true _ b0 (decide_eq_true (by omega)))
  have hl5 := hl.2
  have HL := Lib.hid hl
  clear hl
  go_enter Try.func35, Try.ntmps35
  go_wp2_with fail
  refine CI.out.mono ?_
  rintro e w1 ⟨rfl, hw⟩
  subst hw
  clear b0
  go_wp2
  go_loopw [12] (fun i wr => ∃ k : Nat, k ≤ xs.length ∧ i = .int .i64 k ∧ Hid (uptoE xs k) ∧ Below w.heap.size w wr) (fun i _ => xs.length - (intOf i).toNat)
  case atStart => exact ⟨0, Nat.zero_le _, rfl, Lib.hid (uptoE_zero xs), N0⟩
  case round =>
    obtain ⟨k, hk, rfl, HU, hbl⟩ := hrel
    have hsz := hbl.size
    clear N0
    by_cases hlt : k < xs.length
    case neg =>
      obtain rfl : k = xs.length := by omega
      have HF : Hid (true = u) := Lib.hid (by rw [← HR.out]; exact (goodE_mk (okE_of HU.out HL.out)).symm)
      go_wp2
      go_ret
      exact ⟨ret_bool HF.out, hbl⟩
    obtain ⟨m, hm⟩ := get_of_lt hlt
    obtain ⟨b, off, rfl, hb, hcell⟩ := HC.out k m hm
    have c0 : wr.cell? ⟨b, off + k * 2, none⟩ = some (.int .i64 m.pThick) := cellOf hbl (by omega) (hcell 0 _ rfl)
    have c1 : wr.cell? ⟨b, off + k * 2 + 1, none⟩ = some (.int .i64 m.pSpeed) := cellOf hbl (by omega) (hcell 1 _ rfl)
    have hi0 : (0 : Int) ≤ (k : Int) := by omega
    have hi1 : (k : Int) < (xs.length : Int) := by omega
    have hi2 : (xs.length : Int) ≤ 5 := by omega
    have HM := Lib.hid hm
    have be : Bx ((wr.alloc (.cells #[.int .i64 m.pThick, .int .i64 m.pSpeed] 83)).alloc (.cells #[.int .i64 m.pThick] 3)) wr.heap.size [.int .i64 m.pThick, .int .i64 m.pSpeed] := (Bx.new wr [.int .i64 m.pThick, .int .i64 m.pSpeed] 83).alloc _
    have b1 : Bx ((wr.alloc (.cells #[.int .i64 m.pThick, .int .i64 m.pSpeed] 83)).alloc (.cells #[.int .i64 m.pThick] 3)) (wr.heap.size + 1) [.int .i64 m.pThick] := Bx.new1 wr _ [.int .i64 m.pThick] 3
    have b2 : Bx (((wr.alloc (.cells #[.int .i64 m.pThick, .int .i64 m.pSpeed] 83)).alloc (.cells #[.int .i64 m.pThick] 3)).alloc (.cells #[.int .i64 m.pSpeed] 3)) (wr.heap.size + 1 + 1) [.int .i64 m.pSpeed] := Bx.new2 wr _ _ [.int .i64 m.pSpeed] 3
    have N1 : Below w.heap.size w ((wr.alloc (.cells #[.int .i64 m.pThick, .int .i64 m.pSpeed] 83)).alloc (.cells #[.int .i64 m.pThick] 3)) := (hbl.alloc hsz _).alloc (by simp; omega) _
    have N2 := N1.alloc (Nat.le_trans hsz (by simp; omega)) (.cells #[.int .i64 m.pSpeed] 3)
    have e1 := be.2 1 _ rfl
    clear hm hcell
    by_cases t0 : 1 ≤ m.pThick ∧ m.pThick ≤ 200
    case neg =>
      have CT := Lib.hid (withinOne 1 200 m.pThick _ false _ b1 (decide_eq_false t0))
      have HF : Hid (false = u) := Lib.hid (by rw [← HR.out]; exact (goodE_no fun g => t0 (okE_at g HM.out).1).symm)
      clear t0 be b1 b2 N2
      go_wp2_with fail
      refine CT.out.mono ?_
      rintro e w2 ⟨rfl, hw⟩
      subst hw
      go_wp2
      go_ret
      exact ⟨ret_bool HF.out, N1⟩
    have CT := Lib.hid (withinOne 1 200 m.pThick _ true _ b1 (decide_eq_true t0))
    by_cases t1 : 1 ≤ m.pSpeed ∧ m.pSpeed ≤ 50
    case neg =>
      have CT1 := Lib.hid (withinOne 1 50 m.pSpeed _ false _ b2 (decide_eq_false t1))
      have HF : Hid (false = u) := Lib.hid (by rw [← HR.out]; exact (goodE_no fun g => t1 (okE_at g HM.out).2).symm)
      clear t0 t1 be b1 b2 N1
      go_wp2_with fail
      refine CT.out.mono ?_
      rintro e w2 ⟨rfl, hw⟩
      subst hw
      go_wp2_with fail
      refine CT1.out.mono ?_
      rintro e w2 ⟨rfl, hw⟩
      subst hw
      go_wp2
      go_ret
      exact ⟨ret_bool HF.out, N2⟩
    have CT1 := Lib.hid (withinOne 1 50 m.pSpeed _ true _ b2 (decide_eq_true t1))
    have HU2 := Lib.hid (uptoE_succ HU.out HM.out ⟨t0, t1⟩)
    clear t0 t1 be b1 b2 N1
    go_wp2_with fail
    refine CT.out.mono ?_
    rintro e w2 ⟨rfl, hw⟩
    subst hw
    go_wp2_with fail
    refine CT1.out.mono ?_
    rintro e w2 ⟨rfl, hw⟩
    subst hw
    go_wp2
    go_roundw
    case rel => exact ⟨k + 1, by omega, by go_num, HU2, N2⟩
    case measure => simp [intOf]; omega
theorem implIsM (xs : List GEarth) (v : Value) (w : World) (B : Nat) (h : EarthL w B v xs) (hB : B ≤ w.heap.size) (hn : szsEarth xs ≤ 1048576) (hw : ∀ s ∈ xs, wfEarth s) :
    Calls Try.prog 35 #[v] w fun e w' => e = .returned (.bool (goodE xs)) ∧ Below w.heap.size w w' := implGoodE xs v _ w B h hB (Nat.le_trans (szsEarth_len xs) hn) rfl
theorem implDist (D : Int) (u : Bool) (w : World) (hu : decide (0 ≤ D ∧ D ≤ 2000) = u) :
    Calls Try.prog 99 #[.int .i64 D] w fun e w' => e = .returned (.bool u) ∧ Below w.heap.size w w' := by
  have C := Lib.hid (withinOne 0 2000 D w.heap.size u _ (Bx.new w [.int .i64 D] 3) hu)
  have N0 : Below w.heap.size w (w.alloc (.cells #[.int .i64 D] 3)) := (Below.refl _ w).alloc (Nat.le_refl _) _
  clear hu
  go_enter Try.func99, Try.ntmps99
  go_wp2_with fail
  refine C.out.mono ?_
  rintro e w2 ⟨rfl, hw⟩
  subst hw
  go_wp2
  go_ret
  exact ⟨rfl, N0⟩
theorem implHasL (xs : List GEarth) (v : Value) (k : Int) (u : Bool) (w : World) (B : Nat) (h : EarthL w B v xs) (hn : xs.length ≤ 1048576) (hu : decide (0 ≤ k ∧ k ≤ (xs.length : Int) - 1) = u) :
    Calls Try.prog 110 #[v, .int .i64 k] w fun e w' => e = .returned (.bool u) ∧ Below w.heap.size w w' := by
  have C := Lib.hid (withinOne 0 ((xs.length : Int) - 1) k w.heap.size u _ (Bx.new w [.int .i64 k] 3) hu)
  have N0 : Below w.heap.size w (w.alloc (.cells #[.int .i64 k] 3)) := (Below.refl _ w).alloc (Nat.le_refl _) _
  have s1 : IntKind.i64.wrap ((xs.length : Int) - 1) = (xs.length : Int) - 1 := IntWalk.i64_in _ (by omega)
  obtain ⟨ao, cap, rfl⟩ := h.form
  clear hu h
  go_enter Try.func110, Try.ntmps110
  go_wp2_with fail
  refine C.out.mono ?_
  rintro e w2 ⟨rfl, hw⟩
  subst hw
  go_wp2
  go_ret
  exact ⟨rfl, N0⟩
set_option maxRecDepth 100000 in
set_option maxHeartbeats 4000000 in
theorem implMd (xs : List GEarth) (v : Value) (w : World) (B : Nat) (h : EarthL w B v xs) (hB : B ≤ w.heap.size) (hn : szsEarth xs ≤ 1048576) (hw : ∀ s ∈ xs, wfEarth s) :
    Calls Try.prog 32 #[v] w fun e w' => e = .returned (.tuple #[.int .i64 (numMd xs), .bool (okMd xs)]) ∧ Below w.heap.size w w' := by
  have hl := Nat.le_trans (szsEarth_len xs) hn
  cases hg : goodE xs with
  | false =>
    have C := Lib.hid (implGoodE xs v false w B h hB hl hg)
    have HF := Lib.hid (noMd (xs := xs) (by unfold okMd; exact hg))
    obtain ⟨ao, cap, rfl⟩ := h.form
    clear h hg
    go_enter Try.func32, Try.ntmps32
    go_wp2_with fail
    refine C.out.mono ?_
    rintro e w1 ⟨rfl, hb⟩
    go_wp2
    go_ret2
    exact ⟨HF.out, hb⟩
  | true =>
    have C := Lib.hid (implGoodE xs v true w B h hB hl hg)
    have HO := Lib.hid (goodE_yes hg)
    have HY := Lib.hid (fun x h0 => yesMd (xs := xs) (x0 := x) (by unfold okMd; exact hg) h0)
    have hl5 := HO.out.1.2
    obtain ⟨ao, cap, rfl, hcap, hmax, -, hc⟩ := h
    have HC := Lib.hid hc
    clear hc hg
    go_enter Try.func32, Try.ntmps32
    go_wp2_with fail
    refine C.out.mono ?_
    rintro e w1 ⟨rfl, hb⟩
    go_wp2
    go_loopw [4, 12] (fun s i wr => ∃ (k : Nat) (t : Int), k ≤ xs.length ∧ i = .int .i64 k ∧ s = .int .i64 t ∧ Hid (depE (xs.take k) = t) ∧ (0 ≤ t ∧ t ≤ 200 * k) ∧ Below w.heap.size w wr) (fun _ i _ => xs.length - (intOf i).toNat)
    case atStart => exact ⟨0, 0, Nat.zero_le _, rfl, rfl, Lib.hid rfl, by omega, hb⟩
    case round =>
      clear hb
      obtain ⟨k, t, hk, rfl, rfl, HT, hbd, hbl⟩ := hrel
      have hsz := hbl.size
      by_cases hlt : k < xs.length
      case neg =>
        have HF := Lib.hid (HY.out t (by rw [← HT.out, take_all hlt]))
        go_wp2
        go_ret2
        exact ⟨HF.out, hbl⟩
      obtain ⟨m, hm⟩ := get_of_lt hlt
      obtain ⟨b, off, rfl, hb, hcell⟩ := HC.out k m hm
      have c0 : wr.cell? ⟨b, off + k * 2, none⟩ = some (.int .i64 m.pThick) := cellOf hbl (by omega) (hcell 0 _ rfl)
      have c1 : wr.cell? ⟨b, off + k * 2 + 1, none⟩ = some (.int .i64 m.pSpeed) := cellOf hbl (by omega) (hcell 1 _ rfl)
      have hi0 : (0 : Int) ≤ (k : Int) := by omega
      have hi1 : (k : Int) < (xs.length : Int) := by omega
      have hi2 : (xs.length : Int) ≤ 5 := by omega
      have ho := okE_at HO.out hm
      unfold okEa at ho
      have HT2 : Hid (depE (xs.take (k + 1)) = t + m.pThick) := Lib.hid (by rw [depE_snoc hm, HT.out])
      have s1 : IntKind.i64.wrap (t + m.pThick) = t + m.pThick := IntWalk.i64_in _ (by omega)
      have N1 := hbl.alloc hsz (.cells #[.int .i64 m.pThick, .int .i64 m.pSpeed] 83)
      clear hm hcell
      go_wp2
      go_roundw
      case rel => exact ⟨k + 1, _, by omega, by go_num, rfl, HT2, by omega, N1⟩
      case measure => simp [intOf]; omega
end Go.Proofs.Ytklilfbokpljkaa
