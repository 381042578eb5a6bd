/- Tracks: the specification's test, and its line. -/
import Derived.Test.YtklilfbokpljkacTkM
import Derived.Test.YtklilfbokpljkacGood
import Derived.BigQuiet
namespace Go.Proofs.Ytklilfbokpljkac
open Go.ChangeShapes Go.WideShapes Go.ChangeAt Go.RowKit Go.ChangeMaps
set_option linter.unusedSimpArgs false
set_option linter.unusedVariables false

theorem specInB (x a b : Int) (u : Bool) (w : World) (hu : decide (a ≤ x ∧ x ≤ b) = u) : Calls Try.prog 90 #[.int .i64 x, .int .i64 a, .int .i64 b] w fun e w' => e = .returned (.bool u) ∧ w' = w := by
  cases u with
  | true => exact inYes x a b w (of_decide_eq_true hu)
  | false => exact inNo x a b w (of_decide_eq_false hu)
theorem specTickB (x : Int) (u : Bool) (w : World) (hu : decide (0 ≤ x ∧ x ≤ 1000000) = u) : Calls Try.prog 98 #[.int .i64 x] w fun e w' => e = .returned (.bool u) ∧ w' = w := by
  have C := specInB x 0 1000000 u w hu
  go_enter Try.func98, Try.ntmps98
  go_wp2_with fail
  refine C.mono ?_
  rintro e w' ⟨rfl, rfl⟩
  go_wp2
  go_ret
  exact ⟨rfl, rfl⟩
/-- The marks before number k are in order. -/
def uptoTk (xs : List GClockMark) (k : Nat) : Prop := (∀ m ∈ xs.take k, tickM m) ∧ (xs.take k).Pairwise befTk
theorem uptoTk_zero (xs : List GClockMark) : uptoTk xs 0 := ⟨by simp, by simp⟩
theorem uptoTk_succ {xs : List GClockMark} {k : Nat} {m : GClockMark} (h : uptoTk xs k) (hm : xs[k]? = some m) (ht : tickM m) (hp : k = 0 ∨ ∃ p, xs[k - 1]? = some p ∧ befTk p m) : uptoTk xs (k + 1) := by
  have e : xs.take (k + 1) = xs.take k ++ [m] := take_snoc hm
  unfold uptoTk
  rw [e]
  refine ⟨fun a ha => ?_, ?_⟩
  · rcases List.mem_append.1 ha with q | q
    · exact h.1 a q
    · rw [List.mem_singleton] at q; rw [q]; exact ht
  · rw [List.pairwise_append]
    refine ⟨h.2, by simp, fun a ha b hb => ?_⟩
    rw [List.mem_singleton] at hb
    rw [hb]
    rcases hp with q | ⟨p, hp1, hp2⟩
    · rw [q] at ha; simp at ha
    · by_cases hk : k = 0
      · rw [hk] at ha; simp at ha
      · have hpk : (xs.take k)[k - 1]? = some p := by rw [List.getElem?_take, if_pos (by omega)]; exact hp1
        rcases asc_cmp h.2 ha (List.mem_of_getElem? hpk) with q | q | q
        · rw [q]; exact hp2
        · unfold befTk at *; omega
        · exfalso
          obtain ⟨j, hj⟩ := List.mem_iff_getElem?.1 ha
          have hj' := List.getElem?_eq_some_iff.1 hj
          have hpk' := List.getElem?_eq_some_iff.1 hpk
          have hjl := hj'.1
          rw [List.length_take] at hjl
          rcases Nat.lt_or_ge j (k - 1) with r | r
          · have := List.pairwise_iff_getElem.1 h.2 j (k - 1) hj'.1 hpk'.1 r
            rw [hj'.2, hpk'.2] at this
            unfold befTk at *; omega
          · have : j = k - 1 := by omega
            subst this
            rw [hj] at hpk
            cases hpk
            unfold befTk at q; omega
theorem okTk_of {xs : List GClockMark} (h : uptoTk xs xs.length) (hl : 2 ≤ xs.length ∧ xs.length ≤ 10) : okTk xs := by
  unfold uptoTk at h
  rw [List.take_length] at h
  exact ⟨hl, h.1, h.2⟩
theorem okTk_next {xs : List GClockMark} (h : okTk xs) {k : Nat} {p m : GClockMark} (hp : xs[k - 1]? = some p) (hm : xs[k]? = some m) (hk : 0 < k) : befTk p m := by
  have hp' := List.getElem?_eq_some_iff.1 hp
  have hm' := List.getElem?_eq_some_iff.1 hm
  have := List.pairwise_iff_getElem.1 h.2.2 (k - 1) k hp'.1 hm'.1 (by omega)
  rw [hp'.2, hm'.2] at this
  exact this
theorem okTk_tick {xs : List GClockMark} (h : okTk xs) {k : Nat} {m : GClockMark} (hm : xs[k]? = some m) : tickM m := h.2.1 m (List.mem_of_getElem? hm)
set_option maxRecDepth 100000 in
set_option maxHeartbeats 2000000 in
theorem specGoodTk (xs : List GClockMark) (v : Value) (w : World) (B : Nat) (h : ClockMarkL w B v xs) (hB : B ≤ w.heap.size) (hn : xs.length ≤ 1048576) :
    Calls Try.prog 97 #[v] w fun e w' => e = .returned (.bool (goodTk xs)) ∧ ∃ n, w' = w.drewN n := by
  obtain ⟨ao, cap, rfl, hcap, hmax, -, hc⟩ := h
  generalize hres : goodTk xs = res
  have HR := Lib.hid hres
  clear hres
  have HC := Lib.hid hc
  clear hc
  go_enter Try.func97, Try.ntmps97
  go_wp2
  go_loopw [3] (fun i wr => ∃ (k n : Nat), k ≤ xs.length ∧ i = .int .i64 k ∧ Hid (uptoTk xs k) ∧ wr = w.drewN n) (fun i _ => xs.length - (intOf i).toNat)
  case atStart => exact ⟨0, 0, Nat.zero_le _, rfl, Lib.hid (uptoTk_zero xs), by simp [World.drewN]⟩
  case round =>
    obtain ⟨k, n, hk, rfl, HU, hw⟩ := hrel
    have hwb : ∀ p, wr.cell? p = w.cell? p := fun p => by rw [hw]; rfl
    have HW : Hid (∀ q, ∃ n', wr.drewN q = w.drewN n') := Lib.hid (fun q => ⟨n + q, by rw [hw, World.drewN_drewN]⟩)
    have HW0 : Hid (∃ n', wr = w.drewN n') := Lib.hid ⟨n, hw⟩
    clear hw
    by_cases hlt : k < xs.length
    case neg =>
      obtain rfl : k = xs.length := by omega
      have hu : decide ((2 : Int) ≤ (xs.length : Int) ∧ (xs.length : Int) ≤ 10) = res := by
        rw [← HR.out]
        by_cases hl : 2 ≤ xs.length ∧ xs.length ≤ 10
        · rw [goodTk_mk (okTk_of HU.out hl)]; exact decide_eq_true (by omega)
        · rw [goodTk_no (fun g => hl g.1)]; exact decide_eq_false (by omega)
      have CI := Lib.hid (fun W => specInB (xs.length : Int) 2 10 res W hu)
      clear hu
      go_wp2_with fail
      refine (CI.out _).mono ?_
      rintro e w1 ⟨rfl, rfl⟩
      go_wp2
      go_ret
      exact ⟨rfl, HW0.out⟩
    obtain ⟨m, hm⟩ := get_of_lt hlt
    obtain ⟨b, off, rfl, hb, hcell⟩ := HC.out k m hm
    have c0 : wr.cell? ⟨b, off + k * 2, none⟩ = some (.int .i64 m.pShown) := (hwb _).trans (hcell 0 _ rfl)
    have c1 : wr.cell? ⟨b, off + k * 2 + 1, none⟩ = some (.int .i64 m.pTrue) := (hwb _).trans (hcell 1 _ rfl)
    have hi0 : (0 : Int) ≤ (k : Int) := by omega
    have hi1 : (k : Int) < (xs.length : Int) := by omega
    have hi2 : (k : Int) ≤ 1048576 := by omega
    have HM := Lib.hid hm
    have HWB := Lib.hid hwb
    clear hm hcell hwb
    by_cases t0 : 0 ≤ m.pShown ∧ m.pShown ≤ 1000000
    case neg =>
      have CT := Lib.hid (fun W => specTickB m.pShown false W (decide_eq_false t0))
      have HF : Hid (false = res) := Lib.hid (by rw [← HR.out]; exact (goodTk_no fun g => t0 (okTk_tick g HM.out).1).symm)
      clear t0
      go_wp2
      go_quiet ((go_at_call 98; exact Calls.quiet_of_same (CT.out _)))
      go_wp2
      go_ret
      exact ⟨ret_bool HF.out, HW.out _⟩
    have CT := Lib.hid (fun W => specTickB m.pShown true W (decide_eq_true t0))
    by_cases t1 : 0 ≤ m.pTrue ∧ m.pTrue ≤ 1000000
    case neg =>
      have CT1 := Lib.hid (fun W => specTickB m.pTrue false W (decide_eq_false t1))
      have HF : Hid (false = res) := Lib.hid (by rw [← HR.out]; exact (goodTk_no fun g => t1 (okTk_tick g HM.out).2).symm)
      clear t0 t1
      go_wp2
      go_quiet ((first | (go_at_call 98; with_reducible exact Calls.quiet_of_same (CT.out _)) | (go_at_call 98; with_reducible exact Calls.quiet_of_same (CT1.out _))))
      go_wp2
      go_ret
      exact ⟨ret_bool HF.out, HW.out _⟩
    have CT1 := Lib.hid (fun W => specTickB m.pTrue true W (decide_eq_true t1))
    have HTK := Lib.hid (show tickM m from ⟨t0, t1⟩)
    clear t0 t1
    by_cases hk0 : k = 0
    case pos =>
      have HU2 := Lib.hid (uptoTk_succ HU.out HM.out HTK.out (Or.inl hk0))
      have g1 : ¬ (0 : Int) < (k : Int) := by omega
      have g2 : decide ((0 : Int) < (k : Int)) = false := decide_eq_false g1
      have g3 : ¬ 0 < k := by omega
      have g4 : decide (0 < k) = false := decide_eq_false g3
      clear hk0
      go_wp2
      go_quiet ((first | (go_at_call 98; with_reducible exact Calls.quiet_of_same (CT.out _)) | (go_at_call 98; with_reducible exact Calls.quiet_of_same (CT1.out _))))
      go_wp2
      go_roundw
      case rel => obtain ⟨n2, h2⟩ := HW.out nq; exact ⟨k + 1, n2, by omega, by go_num, HU2, h2⟩
      case measure => simp [intOf]; omega
    obtain ⟨p, hp⟩ := get_of_lt (l := xs) (k := k - 1) (by omega)
    obtain ⟨b', off', e9, -, hcell⟩ := HC.out (k - 1) p hp
    simp only [Option.some.injEq, Addr.mk.injEq, and_true] at e9
    obtain ⟨rfl, rfl⟩ := e9
    have d0 : wr.cell? ⟨b, off + (k - 1) * 2, none⟩ = some (.int .i64 p.pShown) := (HWB.out _).trans (hcell 0 _ rfl)
    have d1 : wr.cell? ⟨b, off + (k - 1) * 2 + 1, none⟩ = some (.int .i64 p.pTrue) := (HWB.out _).trans (hcell 1 _ rfl)
    have HPP := Lib.hid hp
    clear hp hcell
    have mp0 : (0 : Int) < (k : Int) := by omega
    have mp1 : 0 < k := by omega
    have mp2 : (0 : Int) ≤ (k : Int) - 1 := by omega
    have mp3 : (k : Int) - 1 < (xs.length : Int) := by omega
    have mp4 : ((k : Int) - 1).toNat = k - 1 := by omega
    have mp5 : IntKind.i64.wrap ((k : Int) - 1) = (k : Int) - 1 := IntWalk.i64_in _ (by omega)
    have mp6 : decide ((0 : Int) < (k : Int)) = true := decide_eq_true mp0
    clear hk0
    by_cases s0 : p.pShown < m.pShown
    case neg =>
      have HF : Hid (false = res) := Lib.hid (by rw [← HR.out]; exact (goodTk_no fun g => s0 (okTk_next g HPP.out HM.out mp1).1).symm)
      have s1 : m.pShown ≤ p.pShown := by omega
      go_wp2
      go_quiet ((first | (go_at_call 98; with_reducible exact Calls.quiet_of_same (CT.out _)) | (go_at_call 98; with_reducible exact Calls.quiet_of_same (CT1.out _))))
      go_wp2
      go_ret
      exact ⟨ret_bool HF.out, HW.out _⟩
    have s1 : ¬ m.pShown ≤ p.pShown := by omega
    have s1d : decide (m.pShown ≤ p.pShown) = false := decide_eq_false s1
    by_cases s2 : p.pTrue < m.pTrue
    case neg =>
      have HF : Hid (false = res) := Lib.hid (by rw [← HR.out]; exact (goodTk_no fun g => s2 (okTk_next g HPP.out HM.out mp1).2).symm)
      have s3 : m.pTrue ≤ p.pTrue := by omega
      clear s0 s2
      go_wp2
      go_quiet ((first | (go_at_call 98; with_reducible exact Calls.quiet_of_same (CT.out _)) | (go_at_call 98; with_reducible exact Calls.quiet_of_same (CT1.out _))))
      go_wp2
      go_ret
      exact ⟨ret_bool HF.out, HW.out _⟩
    have s3 : ¬ m.pTrue ≤ p.pTrue := by omega
    have s3d : decide (m.pTrue ≤ p.pTrue) = false := decide_eq_false s3
    have HU2 := Lib.hid (uptoTk_succ HU.out HM.out HTK.out (Or.inr ⟨p, HPP.out, s0, s2⟩))
    clear s0 s2
    go_wp2
    go_quiet ((first | (go_at_call 98; with_reducible exact Calls.quiet_of_same (CT.out _)) | (go_at_call 98; with_reducible exact Calls.quiet_of_same (CT1.out _))))
    go_wp2
    go_roundw
    case rel => obtain ⟨n2, h2⟩ := HW.out nq; exact ⟨k + 1, n2, by omega, by go_num, HU2, h2⟩
    case measure => simp [intOf]; omega
end Go.Proofs.Ytklilfbokpljkac
