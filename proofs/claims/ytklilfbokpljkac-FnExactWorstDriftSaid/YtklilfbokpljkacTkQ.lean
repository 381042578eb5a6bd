/- Tracks: the program's offsets. -/
import Derived.Test.YtklilfbokpljkacTkI
import Derived.Test.YtklilfbokpljkacTkS
import Derived.Test.YtklilfbokpljkacRed
import Derived.Lib.QuietBelow
import Derived.BigQuiet
namespace Go.Proofs.Ytklilfbokpljkac
open Go.ChangeShapes Go.WideShapes Go.ChangeAt Go.RowKit Go.ChangeMaps Go.Sort
set_option linter.unusedSimpArgs false
set_option linter.unusedVariables false
set_option linter.unusedSimpArgs false
set_option linter.unusedVariables false

theorem implOff (m : GClockMark) (w : World) (ht : tickM m) :
    Calls Try.prog 103 #[.agg #[.int .i64 m.pShown, .int .i64 m.pTrue]] w fun e w' => e = .returned (.int .i64 (m.pTrue - m.pShown)) ∧ Below w.heap.size w w' := by
  unfold tickM at ht
  have N1 := (Below.refl w.heap.size w).alloc (Nat.le_refl _) (.cells #[.int .i64 m.pShown, .int .i64 m.pTrue] 50)
  have bx := Bx.new w [.int .i64 m.pShown, .int .i64 m.pTrue] 50
  have d0 := bx.2 0 _ rfl
  have d1 := bx.2 1 _ rfl
  have s1 : IntKind.i64.wrap (m.pTrue - m.pShown) = m.pTrue - m.pShown := IntWalk.i64_in _ (by omega)
  go_enter Try.func103, Try.ntmps103
  go_wp2
  go_ret
  exact ⟨rfl, N1⟩
theorem mxT_ge (a b : Int) : (if b > a then b else a) = mxT a b := rfl
set_option maxRecDepth 100000 in
set_option maxHeartbeats 2000000 in
theorem implSpan (xs : List GClockMark) (v : Value) (w : World) (B : Nat) (h : ClockMarkL w B v xs) (hB : B ≤ w.heap.size) (hn : szsClockMark xs ≤ 1048576) (hw : ∀ m ∈ xs, wfClockMark m) :
    Calls Try.prog 42 #[v] w fun e w' => e = .returned (.tuple #[.int .i64 (loSp xs), .int .i64 (hiSp xs), .bool (goodTk xs)]) ∧ Below w.heap.size w w' := by
  by_cases hg : goodTk xs = true
  case neg =>
    have hg : goodTk xs = false := by simpa using hg
    have C := Lib.hid (implGoodTk xs v w B h hB false hg)
    have HF := Lib.hid (noSp hg)
    obtain ⟨ao, cap, rfl⟩ := h.form
    clear h hg
    go_enter Try.func42, Try.ntmps42
    go_wp2_with fail
    refine C.out.mono ?_
    rintro e w1 ⟨rfl, hb⟩
    go_wp2
    go_ret3
    exact ⟨HF.out, hb⟩
  have C := Lib.hid (implGoodTk xs v w B h hB true hg)
  have HK := Lib.hid (goodTk_yes hg)
  have HY := Lib.hid (fun a b => yesSp (a := a) (b := b) hg)
  have hl2 := HK.out.1.1
  have hl10 : (xs.length : Int) ≤ 10 := by have := HK.out.1.2; omega
  obtain ⟨ao, cap, rfl, hcap, hmax, -, hc⟩ := h
  unfold maxLen at hmax
  have HC := Lib.hid hc
  clear hc hg
  obtain ⟨m0, hm0⟩ := get_of_lt (l := xs) (k := 0) (by omega)
  obtain ⟨b, off, rfl, hbb, hcell⟩ := HC.out 0 m0 hm0
  have tk0 := okTk_tick HK.out hm0
  have HL1 := Lib.hid (loT_one hm0)
  have d0 : w.cell? ⟨b, off, none⟩ = some (.int .i64 m0.pShown) := by have := hcell 0 _ rfl; simpa using this
  have d1 : w.cell? ⟨b, off + 1, none⟩ = some (.int .i64 m0.pTrue) := by have := hcell 1 _ rfl; simpa using this
  clear hm0 hcell
  have g0 : (0 : Int) < (xs.length : Int) := by omega
  have g1 : 0 < xs.length := by omega
  have hcap2 : 2 ≤ cap := by omega
  have hcap3 : ¬ cap = 1 := by omega
  have hl1 : (1 : Int) ≤ (xs.length : Int) := by omega
  go_enter Try.func42, Try.ntmps42
  go_wp2_with fail
  refine C.out.mono ?_
  rintro e w1 ⟨rfl, hb⟩
  have Q0 := cellOf hb (by omega) d0
  have Q1 := cellOf hb (by omega) d1
  have cc : ∀ d os, Calls Try.prog 103 #[.agg #[.int .i64 m0.pShown, .int .i64 m0.pTrue]] (grow (redrawn (w1) d) os) fun e w'' => e = .returned (.int .i64 (m0.pTrue - m0.pShown)) ∧ ∃ p : Regrown, w'' = grow (redrawn (w1) p.d) p.os := fun d os => Calls.regrown_of (implOff m0 _ tk0)
  have r0 := cell_regrown Q0
  have r1 := cell_regrown Q1
  clear d0 d1
  go_wp2
  refine wp_region_quiet_below (by kernel_rfl) (by kernel_rfl) ?_
  repeat (go_big_quiet_step (exact cc _ _))
  refine wpQuiet_nil ?_
  intro _ hw'
  obtain ⟨⟨dq, osq⟩, hw''⟩ := hw'
  subst hw''
  have hb2 := below_regrown (w1) dq osq
  generalize grow (redrawn (w1) dq) osq = w2 at *
  clear Q0 Q1 r0 r1 cc
  have CI := hb.trans (hb2.mono hb.size)
  have o0 : m0.pTrue - m0.pShown = offT m0 := rfl
  rw [o0]
  generalize offT m0 = of0 at *
  clear o0
  go_wp2
  go_loopw [5, 6, 23] (fun l h i wr => ∃ k : Nat, k ≤ xs.length - 1 ∧ i = .int .i64 k ∧ l = .int .i64 (loT (xs.take (k + 1))) ∧ h = .int .i64 (hiT (xs.take (k + 1))) ∧ Below w.heap.size w wr) (fun _ _ i _ => xs.length - (intOf i).toNat)
  case atStart => exact ⟨0, Nat.zero_le _, rfl, by rw [Nat.zero_add, HL1.out.1], by rw [Nat.zero_add, HL1.out.2], CI⟩
  case round =>
    obtain ⟨k, hk, rfl, rfl, rfl, hbl⟩ := hrel
    have hsz := hbl.size
    by_cases hlt : k < xs.length - 1
    case neg =>
      have hkk : k + 1 = xs.length := by omega
      have hk2 : ¬ (k : Int) < (xs.length : Int) - 1 := by omega
      rw [hkk, List.take_length]
      have HF := Lib.hid (HY.out _ _ rfl rfl)
      clear hkk
      generalize loT xs = lo at *
      generalize hiT xs = hi at *
      go_wp2
      go_ret3
      exact ⟨HF.out, hbl⟩
    obtain ⟨m, hm⟩ := get_of_lt (l := xs) (k := k + 1) (by omega)
    obtain ⟨b', off', e9, -, hcell⟩ := HC.out (k + 1) m hm
    simp only [Option.some.injEq, Addr.mk.injEq, and_true] at e9
    obtain ⟨rfl, rfl⟩ := e9
    have tk := okTk_tick HK.out hm
    have c0 : wr.cell? ⟨b, off + 2 + k * 2, none⟩ = some (.int .i64 m.pShown) := cellOf hbl (by omega) (by have := hcell 0 _ rfl; rwa [show off + (k + 1) * 2 + 0 = off + 2 + k * 2 + 0 by omega] at this)
    have c1 : wr.cell? ⟨b, off + 2 + k * 2 + 1, none⟩ = some (.int .i64 m.pTrue) := cellOf hbl (by omega) (by have := hcell 1 _ rfl; rwa [show off + (k + 1) * 2 + 1 = off + 2 + k * 2 + 1 by omega] at this)
    have hi0 : (0 : Int) ≤ (k : Int) := by omega
    have hlt2 : (k : Int) < (xs.length : Int) - 1 := by omega
    have HLS := Lib.hid (loT_snoc hm (by omega))
    have HHS := Lib.hid (hiT_snoc hm (by omega))
    generalize loT (xs.take (k + 1)) = lo at *
    generalize hiT (xs.take (k + 1)) = hi at *
    clear hm hcell
    have N1 := (Below.refl wr.heap.size wr).alloc (Nat.le_refl _) (.cells #[.int .i64 m.pShown, .int .i64 m.pTrue] 50)
    have bx := Bx.new wr [.int .i64 m.pShown, .int .i64 m.pTrue] 50
    have Q0 := bx.2 0 _ rfl
    have Q1 := bx.2 1 _ rfl
    have cc : ∀ d os, Calls Try.prog 103 #[.agg #[.int .i64 m.pShown, .int .i64 m.pTrue]] (grow (redrawn (wr.alloc (.cells #[.int .i64 m.pShown, .int .i64 m.pTrue] 50)) d) os) fun e w'' => e = .returned (.int .i64 (m.pTrue - m.pShown)) ∧ ∃ p : Regrown, w'' = grow (redrawn (wr.alloc (.cells #[.int .i64 m.pShown, .int .i64 m.pTrue] 50)) p.d) p.os := fun d os => Calls.regrown_of (implOff m _ tk)
    have r0 := cell_regrown Q0
    have r1 := cell_regrown Q1
    go_wp2
    refine wp_region_quiet_below (by kernel_rfl) (by kernel_rfl) ?_
    repeat (go_big_quiet_step (exact cc _ _))
    refine wpQuiet_nil ?_
    intro _ hw'
    obtain ⟨⟨dq, osq⟩, hw''⟩ := hw'
    subst hw''
    have hb3 := below_regrown (wr.alloc (.cells #[.int .i64 m.pShown, .int .i64 m.pTrue] 50)) dq osq
    generalize grow (redrawn (wr.alloc (.cells #[.int .i64 m.pShown, .int .i64 m.pTrue] 50)) dq) osq = w3 at *
    have C3 := hbl.trans ((N1.trans (hb3.mono (by simp))).mono hsz)
    clear hb3 Q0 Q1 r0 r1 cc N1 bx
    go_wp2
    go_roundw
    case rel => exact ⟨k + 1, by omega, by go_num, by rw [HLS.out]; rfl, by rw [HHS.out]; rfl, C3⟩
    case measure => simp [intOf]; omega
end Go.Proofs.Ytklilfbokpljkac
