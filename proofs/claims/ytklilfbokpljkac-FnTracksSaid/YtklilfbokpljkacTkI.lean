/- Tracks: the program's test, its division and its line. -/
import Derived.Test.YtklilfbokpljkacTkT
import Derived.Test.YtklilfbokpljkacStaW
import Derived.Deep.RegionHeld3
import Derived.Deep.CutBlock
import Derived.Deep.CutRange
namespace Go.Proofs.Ytklilfbokpljkac
open Go.ChangeShapes Go.WideShapes Go.ChangeAt Go.RowKit Go.ChangeMaps
set_option linter.unusedSimpArgs false
set_option linter.unusedVariables false
set_option linter.unusedSimpArgs false
set_option linter.unusedVariables false

theorem tickIB (x : Int) (u : Bool) (w : World) (hu : decide (0 ≤ x ∧ x ≤ 1000000) = u) : Calls Try.prog 95 #[.int .i64 x] w fun e w' => e = .returned (.bool u) ∧ w' = w := by
  refine (implTick x u w (by unfold inB; exact hu)).mono ?_
  rintro e w' ⟨rfl, rfl⟩
  exact ⟨rfl, rfl⟩
set_option maxRecDepth 100000 in
set_option maxHeartbeats 2000000 in
theorem implGoodTk (xs : List GClockMark) (v : Value) (w : World) (B : Nat) (h : ClockMarkL w B v xs) (hB : B ≤ w.heap.size) (u : Bool) (hu : goodTk xs = u) :
    Calls Try.prog 44 #[v] w fun e w' => e = .returned (.bool u) ∧ Below w.heap.size w w' := by
  obtain ⟨ao, cap, rfl, hcap, hmax, -, hc⟩ := h
  have HR := Lib.hid hu
  clear hu
  by_cases h2 : 2 ≤ xs.length
  case neg =>
    have HG : Hid (false = u) := Lib.hid (by rw [← HR.out]; exact (goodTk_no fun g => h2 g.1.1).symm)
    have h2' : (xs.length : Int) < 2 := by omega
    go_enter Try.func44, Try.ntmps44
    go_wp2
    go_ret
    exact ⟨ret_bool HG.out, Below.refl _ _⟩
  have h2' : ¬ (xs.length : Int) < 2 := by omega
  by_cases h10 : xs.length ≤ 10
  case neg =>
    have HG : Hid (false = u) := Lib.hid (by rw [← HR.out]; exact (goodTk_no fun g => h10 g.1.2).symm)
    have h10' : (10 : Int) < xs.length := by omega
    go_enter Try.func44, Try.ntmps44
    go_wp2
    go_ret
    exact ⟨ret_bool HG.out, Below.refl _ _⟩
  have h10' : ¬ (10 : Int) < xs.length := by omega
  have HC := Lib.hid hc
  clear hc
  go_enter Try.func44, Try.ntmps44
  go_wp2
  go_loopw [15] (fun i wr => ∃ k : Nat, k ≤ xs.length ∧ i = .int .i64 k ∧ Hid (uptoTk xs k) ∧ Below w.heap.size w wr) (fun i _ => xs.length - (intOf i).toNat)
  case atStart => exact ⟨0, Nat.zero_le _, rfl, Lib.hid (uptoTk_zero xs), Below.refl _ _⟩
  case round =>
    obtain ⟨k, hk, rfl, HU, hbl⟩ := hrel
    have hsz := hbl.size
    by_cases hlt : k < xs.length
    case neg =>
      obtain rfl : k = xs.length := by omega
      have HG : Hid (true = u) := Lib.hid (by rw [← HR.out]; exact (goodTk_mk (okTk_of HU.out ⟨h2, h10⟩)).symm)
      go_wp2
      go_ret
      exact ⟨ret_bool HG.out, hbl⟩
    obtain ⟨m, hm⟩ := get_of_lt hlt
    obtain ⟨b, off, rfl, hb, hcell⟩ := HC.out k m hm
    have c0 : wr.cell? ⟨b, off + k * 2, none⟩ = some (.int .i64 m.pShown) := cellOf hbl (by omega) (hcell 0 _ rfl)
    have c1 : wr.cell? ⟨b, off + k * 2 + 1, none⟩ = some (.int .i64 m.pTrue) := cellOf hbl (by omega) (hcell 1 _ rfl)
    have hi0 : (0 : Int) ≤ (k : Int) := by omega
    have hi1 : (k : Int) < (xs.length : Int) := by omega
    have HM := Lib.hid hm
    clear hm hcell
    have N1 := (Below.refl wr.heap.size wr).alloc (Nat.le_refl _) (.cells #[.int .i64 m.pShown, .int .i64 m.pTrue] 50)
    have bx := Bx.new wr [.int .i64 m.pShown, .int .i64 m.pTrue] 50
    have HB1 := Lib.hid (hbl.trans (N1.mono hsz))
    by_cases t0 : 0 ≤ m.pShown ∧ m.pShown ≤ 1000000
    case neg =>
      have CT := Lib.hid (fun W => tickIB m.pShown false W (decide_eq_false t0))
      have HF : Hid (false = u) := Lib.hid (by rw [← HR.out]; exact (goodTk_no fun g => t0 (okTk_tick g HM.out).1).symm)
      clear t0
      go_wp2_with fail
      refine (CT.out _).mono ?_
      rintro e w1 ⟨rfl, hw1⟩
      obtain rfl := hw1
      go_wp2
      go_ret
      exact ⟨ret_bool HF.out, HB1.out⟩
    have CT := Lib.hid (fun W => tickIB m.pShown true W (decide_eq_true t0))
    by_cases t1 : 0 ≤ m.pTrue ∧ m.pTrue ≤ 1000000
    case neg =>
      have CT1 := Lib.hid (fun W => tickIB m.pTrue false W (decide_eq_false t1))
      have HF : Hid (false = u) := Lib.hid (by rw [← HR.out]; exact (goodTk_no fun g => t1 (okTk_tick g HM.out).2).symm)
      clear t0 t1
      go_wp2_with fail
      refine (CT.out _).mono ?_
      rintro e w1 ⟨rfl, hw1⟩
      obtain rfl := hw1
      go_wp2_with fail
      refine (CT1.out _).mono ?_
      rintro e w1 ⟨rfl, hw1⟩
      obtain rfl := hw1
      go_wp2
      go_ret
      exact ⟨ret_bool HF.out, HB1.out⟩
    have CT1 := Lib.hid (fun W => tickIB m.pTrue true W (decide_eq_true t1))
    have HTK := Lib.hid (show tickM m from ⟨t0, t1⟩)
    clear t0 t1
    have W1 := Lib.hid (show ∃ W, W = wr.alloc (.cells #[.int .i64 m.pShown, .int .i64 m.pTrue] 50) from ⟨_, rfl⟩)
    go_wp2_with fail
    refine (CT.out _).mono ?_
    rintro e w1 ⟨rfl, hw1⟩
    obtain rfl := hw1
    go_wp2_with fail
    refine (CT1.out _).mono ?_
    rintro e w1 ⟨rfl, hw1⟩
    obtain rfl := hw1
    have d0 := bx.2 0 _ rfl
    have d1 := bx.2 1 _ rfl
    by_cases hk0 : k = 0
    case pos =>
      have HU2 := Lib.hid (uptoTk_succ HU.out HM.out HTK.out (Or.inl hk0))
      have g1 : ¬ (0 : Int) < (k : Int) := by omega
      have g2 : decide ((0 : Int) < (k : Int)) = false := decide_eq_false g1
      have g3 : ¬ 0 < k := by omega
      have g4 : decide (0 < k) = false := decide_eq_false g3
      clear hk0
      go_wp2
      go_quiet (fail)
      go_wp2
      go_roundw
      case rel => exact ⟨k + 1, by omega, by go_num, HU2, drewN_b HB1.out _⟩
      case measure => simp [intOf]; omega
    obtain ⟨p, hp⟩ := get_of_lt (l := xs) (k := k - 1) (by omega)
    obtain ⟨b', off', e9, -, hcell⟩ := HC.out (k - 1) p hp
    simp only [Option.some.injEq, Addr.mk.injEq, and_true] at e9
    obtain ⟨rfl, rfl⟩ := e9
    have p0 : (wr.alloc (.cells #[.int .i64 m.pShown, .int .i64 m.pTrue] 50)).cell? ⟨b, off + (k - 1) * 2, none⟩ = some (.int .i64 p.pShown) := cellOf HB1.out (by omega) (hcell 0 _ rfl)
    have p1 : (wr.alloc (.cells #[.int .i64 m.pShown, .int .i64 m.pTrue] 50)).cell? ⟨b, off + (k - 1) * 2 + 1, none⟩ = some (.int .i64 p.pTrue) := cellOf HB1.out (by omega) (hcell 1 _ rfl)
    have HPP := Lib.hid hp
    clear hp hcell
    have mp0 : (0 : Int) < (k : Int) := by omega
    have mp1 : 0 < k := by omega
    have mp2 : (0 : Int) ≤ (k : Int) - 1 := by omega
    have mp3 : (k : Int) - 1 < (xs.length : Int) := by omega
    have mp4 : ((k : Int) - 1).toNat = k - 1 := by omega
    have mp5 : IntKind.i64.wrap ((k : Int) - 1) = (k : Int) - 1 := IntWalk.i64_in _ (by omega)
    have mp6 : decide ((0 : Int) < (k : Int)) = true := decide_eq_true mp0
    clear hk0
    by_cases s0 : p.pShown < m.pShown
    case neg =>
      have HF : Hid (false = u) := Lib.hid (by rw [← HR.out]; exact (goodTk_no fun g => s0 (okTk_next g HPP.out HM.out mp1).1).symm)
      have s1 : m.pShown ≤ p.pShown := by omega
      go_wp2
      go_quiet (fail)
      go_wp2
      go_ret
      exact ⟨ret_bool HF.out, drewN_b HB1.out _⟩
    have s1 : ¬ m.pShown ≤ p.pShown := by omega
    have s1d : decide (m.pShown ≤ p.pShown) = false := decide_eq_false s1
    by_cases s2 : p.pTrue < m.pTrue
    case neg =>
      have HF : Hid (false = u) := Lib.hid (by rw [← HR.out]; exact (goodTk_no fun g => s2 (okTk_next g HPP.out HM.out mp1).2).symm)
      have s3 : m.pTrue ≤ p.pTrue := by omega
      clear s0 s2
      go_wp2
      go_quiet (fail)
      go_wp2
      go_ret
      exact ⟨ret_bool HF.out, drewN_b HB1.out _⟩
    have s3 : ¬ m.pTrue ≤ p.pTrue := by omega
    have s3d : decide (m.pTrue ≤ p.pTrue) = false := decide_eq_false s3
    have HU2 := Lib.hid (uptoTk_succ HU.out HM.out HTK.out (Or.inr ⟨p, HPP.out, s0, s2⟩))
    clear s0 s2
    go_wp2
    go_quiet (fail)
    go_wp2
    go_roundw
    case rel => exact ⟨k + 1, by omega, by go_num, HU2, drewN_b HB1.out _⟩
    case measure => simp [intOf]; omega

theorem implIsTk (xs : List GClockMark) (v : Value) (w : World) (B : Nat) (h : ClockMarkL w B v xs) (hB : B ≤ w.heap.size) (_ : szsClockMark xs ≤ 1048576) (_ : ∀ m ∈ xs, wfClockMark m) :
    Calls Try.prog 44 #[v] w fun e w' => e = .returned (.bool (goodTk xs)) ∧ Below w.heap.size w w' := implGoodTk xs v w B h hB _ rfl
end Go.Proofs.Ytklilfbokpljkac
