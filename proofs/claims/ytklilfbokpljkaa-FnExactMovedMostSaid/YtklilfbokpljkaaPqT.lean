/- Picks: WithdrawLast and WindowOf of the program. -/
import Derived.Test.YtklilfbokpljkaaPqS
import Derived.Lib.MinMax
namespace Go.Proofs.Ytklilfbokpljkaa
open Go.ChangeShapes Go.WideShapes Go.ChangeAt Go.RowKit Go.ChangeMaps Go.Sort Go.Shelf
set_option linter.unusedSimpArgs false
set_option linter.unusedVariables false
theorem ret_iib {a b a' b' : Int} {u : Bool} (h1 : a = a') (h2 : b = b') : Ending.returned (.tuple #[.int .i64 a, .int .i64 b, .bool u]) = .returned (.tuple #[.int .i64 a', .int .i64 b', .bool u]) := by rw [h1, h2]
/-- The window of a pick. -/
noncomputable def okWin (xs : List GPick) (id : Int) : Bool := goodP xs && (lookP xs id).isSome
noncomputable def loWin (xs : List GPick) (id : Int) : Int := if okWin xs id = true then (match lookP xs id with | some p => max 0 (p.pTick - p.pError) | none => 0) else 0
noncomputable def hiWin (xs : List GPick) (id : Int) : Int := if okWin xs id = true then (match lookP xs id with | some p => min 1000000 (p.pTick + p.pError) | none => 0) else 0
theorem win_bad {xs : List GPick} (h : goodP xs = false) (id : Int) : okWin xs id = false ∧ loWin xs id = 0 ∧ hiWin xs id = 0 := by
  have e : okWin xs id = false := by unfold okWin; rw [h]; rfl
  exact ⟨e, by unfold loWin; rw [e]; rfl, by unfold hiWin; rw [e]; rfl⟩
theorem win_none {xs : List GPick} {id : Int} (h : lookP xs id = none) : okWin xs id = false ∧ loWin xs id = 0 ∧ hiWin xs id = 0 := by
  have e : okWin xs id = false := by unfold okWin; rw [h]; exact Bool.and_false _
  exact ⟨e, by unfold loWin; rw [e]; rfl, by unfold hiWin; rw [e]; rfl⟩
theorem win_yes {xs : List GPick} {id : Int} {p : GPick} (hg : goodP xs = true) (h : lookP xs id = some p) : okWin xs id = true ∧ loWin xs id = (max 0 (p.pTick - p.pError)) ∧ hiWin xs id = (min 1000000 (p.pTick + p.pError)) := by
  have e : okWin xs id = true := by unfold okWin; rw [h, hg]; rfl
  exact ⟨e, by unfold loWin; rw [e, h]; rfl, by unfold hiWin; rw [e, h]; rfl⟩
set_option maxRecDepth 100000 in
set_option maxHeartbeats 1000000 in
theorem implWin (xs : List GPick) (v : Value) (id : Int) (w : World) (B : Nat) (h : PickL w B v xs) (hB : B ≤ w.heap.size) (hn : szsPick xs ≤ 1048576) (hw : ∀ s ∈ xs, wfPick s) (_ : I64 id) :
    Calls Try.prog 88 #[v, .int .i64 id] w fun e w' => e = .returned (.tuple #[.int .i64 (loWin xs id), .int .i64 (hiWin xs id), .bool (okWin xs id)]) ∧ Below w.heap.size w w' := by
  have hl := Nat.le_trans (szsPick_len xs) hn
  cases hg : goodP xs with
  | false =>
    have C := Lib.hid (implGoodP xs v false w B h hB hl hg)
    obtain ⟨e1, e2, e3⟩ := win_bad hg id
    rw [e1, e2, e3]
    clear e1 e2 e3 hg
    obtain ⟨ao, cap, rfl⟩ := h.form
    go_enter Try.func88, Try.ntmps88
    go_wp2_with fail
    refine C.out.mono ?_
    rintro e w1 ⟨rfl, hb⟩
    go_wp2
    go_ret3
    exact ⟨rfl, hb⟩
  | true =>
  have C := Lib.hid (implGoodP xs v true w B h hB hl hg)
  have HL := Lib.hid h
  obtain ⟨ao, cap, rfl⟩ := h.form
  clear h
  cases hlk : lookP xs id with
  | none =>
    obtain ⟨e1, e2, e3⟩ := win_none hlk
    rw [e1, e2, e3]
    have HK := Lib.hid hlk
    clear e1 e2 e3 hg hlk
    go_enter Try.func88, Try.ntmps88
    go_wp2_with fail
    refine C.out.mono ?_
    rintro e w1 ⟨rfl, hb⟩
    go_wp2_with fail
    refine (implWithNo xs _ id w1 B (HL.out.below (hb.mono hB)) (Nat.le_trans hB hb.size) hl HK.out).mono ?_
    rintro e w2 ⟨rfl, hb2⟩
    have C2 := hb.trans (hb2.mono hb.size)
    go_wp2
    go_ret3
    exact ⟨rfl, C2.alloc C2.size _⟩
  | some p =>
    obtain ⟨e1, e2, e3⟩ := win_yes hg hlk
    have hp := okP_mem (goodP_yes hg) (look_mem hlk).1
    unfold oneP at hp
    obtain ⟨-, -, -, ⟨t0, t1⟩, ⟨r0, r1⟩, -, -⟩ := hp
    generalize loWin xs id = lo at *
    generalize hiWin xs id = hi at *
    rw [e1]
    have E2 := Lib.hid e2
    have E3 := Lib.hid e3
    have HK := Lib.hid hlk
    clear e1 e2 e3 hg hlk
    go_enter Try.func88, Try.ntmps88
    go_wp2_with fail
    refine C.out.mono ?_
    rintro e w1 ⟨rfl, hb⟩
    go_wp2_with fail
    refine (implWithYes xs _ id p w1 B (HL.out.below (hb.mono hB)) (Nat.le_trans hB hb.size) hl HK.out).mono ?_
    rintro e w2 ⟨rfl, hb2⟩
    have C2 := hb.trans (hb2.mono hb.size)
    have bx := Bx.new w2 (encPick p) 76
    have c3 : (w2.alloc (.cells #[.int .i64 p.pId, .int .i64 p.pStation, .int .i64 p.pWave, .int .i64 p.pTick, .int .i64 p.pError, .int .i64 p.pBy, .int .i64 p.pAfter] 76)).cell? ⟨w2.heap.size, 3, none⟩ = some (.int .i64 p.pTick) := bx.2 3 _ rfl
    have c4 : (w2.alloc (.cells #[.int .i64 p.pId, .int .i64 p.pStation, .int .i64 p.pWave, .int .i64 p.pTick, .int .i64 p.pError, .int .i64 p.pBy, .int .i64 p.pAfter] 76)).cell? ⟨w2.heap.size, 4, none⟩ = some (.int .i64 p.pError) := bx.2 4 _ rfl
    clear bx
    go_wp2
    go_quiet (fail)
    go_wp2
    go_ret3
    exact ⟨ret_iib E2.out.symm E3.out.symm, drewN_b (C2.alloc C2.size _) _⟩

theorem leastP (x y z : Int) (w : World) (h : min x y = z) :
    Calls Try.prog 124 #[.int .i64 x, .int .i64 y] w fun e w' => e = .returned (.int .i64 z) ∧ w' = w := by
  subst h
  by_cases h : x < y
  · have HG := Lib.hid (show x = min x y by omega)
    go_enter Try.func124, Try.ntmps124
    go_wp2
    go_ret
    exact ⟨ret_int HG.out, rfl⟩
  · have HG := Lib.hid (show y = min x y by omega)
    go_enter Try.func124, Try.ntmps124
    go_wp2
    go_ret
    exact ⟨ret_int HG.out, rfl⟩
theorem mostP (x y z : Int) (w : World) (h : max x y = z) :
    Calls Try.prog 123 #[.int .i64 x, .int .i64 y] w fun e w' => e = .returned (.int .i64 z) ∧ w' = w := mostB x y z w (by subst h; split <;> omega)
set_option maxRecDepth 100000 in
set_option maxHeartbeats 1000000 in
theorem specWin (xs : List GPick) (v : Value) (id : Int) (w : World) (B : Nat) (h : PickL w B v xs) (hB : B ≤ w.heap.size) (hn : szsPick xs ≤ 1048576) (hw : ∀ s ∈ xs, wfPick s) (_ : I64 id) :
    Calls Try.prog 91 #[v, .int .i64 id] w fun e w' => e = .returned (.tuple #[.int .i64 (loWin xs id), .int .i64 (hiWin xs id), .bool (okWin xs id)]) ∧ Below w.heap.size w w' := by
  have hl := Nat.le_trans (szsPick_len xs) hn
  obtain ⟨r, hr⟩ := isIdx_ex xs id
  have CF := Lib.hid (specFind xs v id r w B h hr hl)
  cases hg : goodP xs with
  | false =>
    have C := Lib.hid (specGoodP xs v false w B h hB hl hg)
    obtain ⟨e1, e2, e3⟩ := win_bad hg id
    rw [e1, e2, e3]
    clear e1 e2 e3 hg hr
    obtain ⟨ao, cap, rfl⟩ := h.form
    go_enter Try.func91, Try.ntmps91
    go_wp2_with fail
    refine CF.out.mono ?_
    rintro e w1 ⟨rfl, rfl⟩
    go_wp2_with fail
    refine C.out.mono ?_
    rintro e w2 ⟨rfl, hb⟩
    go_wp2
    go_ret3
    exact ⟨rfl, hb⟩
  | true =>
  have C := Lib.hid (specGoodP xs v true w B h hB hl hg)
  have HL := Lib.hid h
  rcases hr with ⟨rfl, -, hlk⟩ | ⟨k, p, rfl, hk, -, -, hlk⟩
  · obtain ⟨e1, e2, e3⟩ := win_none hlk
    rw [e1, e2, e3]
    clear e1 e2 e3 hg hlk
    obtain ⟨ao, cap, rfl⟩ := h.form
    go_enter Try.func91, Try.ntmps91
    go_wp2_with fail
    refine CF.out.mono ?_
    rintro e w1 ⟨rfl, rfl⟩
    go_wp2_with fail
    refine C.out.mono ?_
    rintro e w2 ⟨rfl, hb⟩
    go_wp2
    go_ret3
    exact ⟨rfl, hb⟩
  · obtain ⟨e1, e2, e3⟩ := win_yes hg hlk
    have hp := okP_mem (goodP_yes hg) (look_mem hlk).1
    unfold oneP at hp
    obtain ⟨-, -, -, ⟨t0, t1⟩, ⟨r0, r1⟩, -, -⟩ := hp
    have hkl : k < xs.length := (List.getElem?_eq_some_iff.1 hk).1
    obtain ⟨ao, cap, rfl, hcap, hmax, hnn, hc⟩ := h
    unfold maxLen at hmax
    obtain ⟨b, off, rfl, hb', hcell⟩ := hc k p hk
    have HCell := Lib.hid hcell
    generalize loWin xs id = lo at *
    generalize hiWin xs id = hi at *
    rw [e1]
    have CM := Lib.hid (fun W => mostP 0 (p.pTick - p.pError) lo W e2.symm)
    have CL := Lib.hid (fun W => leastP 1000000 (p.pTick + p.pError) hi W e3.symm)
    have k0 : (0 : Int) ≤ (k : Int) := by omega
    have k1 : (k : Int) < (xs.length : Int) := by omega
    have k2 : ¬ (k : Int) < 0 := by omega
    have k3 : decide ((k : Int) < 0) = false := decide_eq_false k2
    clear e1 e2 e3 hg hlk hc hnn hk hcell
    go_enter Try.func91, Try.ntmps91
    go_wp2_with fail
    refine CF.out.mono ?_
    rintro e w1 ⟨rfl, rfl⟩
    go_wp2_with fail
    refine C.out.mono ?_
    rintro e w2 ⟨rfl, hb⟩
    have c3 : w2.cell? ⟨b, off + k * 7 + 3, none⟩ = some (.int .i64 p.pTick) := cellOf hb (by omega) (HCell.out 3 _ rfl)
    have c4 : w2.cell? ⟨b, off + k * 7 + 4, none⟩ = some (.int .i64 p.pError) := cellOf hb (by omega) (HCell.out 4 _ rfl)
    go_wp2
    go_quiet ((first | (go_at_call 123; exact Calls.quiet_of_same (CM.out _)) | (go_at_call 124; exact Calls.quiet_of_same (CL.out _))))
    go_wp2
    go_ret3
    exact ⟨rfl, drewN_b hb _⟩
end Go.Proofs.Ytklilfbokpljkaa
