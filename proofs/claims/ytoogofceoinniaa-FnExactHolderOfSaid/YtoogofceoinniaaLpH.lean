/- Location by boxes: which cube has an origin, by the program. -/
import Derived.Test.YtoogofceoinniaaLpA
import Derived.Test.YtoogofceoinniaaVpE
import Derived.Lib.SliceRun
import Derived.Lib.MinMax
namespace Go.Proofs.Ytoogofceoinniaa
open Go.ChangeShapes Go.WideShapes Go.ChangeAt Go.RowKit Go.ChangeMaps Go.Sort Go.Shelf
set_option linter.unusedSimpArgs false
set_option linter.unusedVariables false
set_option linter.unusedSimpArgs false
set_option linter.unusedVariables false

/-- The first place of a pick that a test takes, or -1. -/
def isPlC (pr : GCube → Bool) (xs : List GCube) (r : Int) : Prop := (r = -1 ∧ ∀ s ∈ xs, pr s = false) ∨ ∃ (k : Nat) (s : GCube), r = k ∧ xs[k]? = some s ∧ pr s = true ∧ ∀ j t, xs[j]? = some t → j < k → pr t = false
theorem isPlC_ex (pr : GCube → Bool) (xs : List GCube) : ∃ r, isPlC pr xs r := by
  cases h : xs.find? pr with
  | none =>
    rw [List.find?_eq_none] at h
    exact ⟨-1, Or.inl ⟨rfl, fun s hs => by have := h s hs; simpa using this⟩⟩
  | some s =>
    rw [List.find?_eq_some_iff_getElem] at h
    obtain ⟨he, k, hl, hv, hf⟩ := h
    refine ⟨k, Or.inr ⟨k, s, rfl, List.getElem?_eq_some_iff.2 ⟨hl, hv⟩, he, fun j t ht hj => ?_⟩⟩
    have := hf j hj
    obtain ⟨h1, h2⟩ := List.getElem?_eq_some_iff.1 ht
    rw [h2] at this
    simpa using this
theorem isPlC_none {pr : GCube → Bool} {xs : List GCube} {r : Int} (h : isPlC pr xs r) (hn : ∀ s ∈ xs, pr s = false) : r = -1 := by
  rcases h with ⟨h1, _⟩ | ⟨k, s, _, h2, h3, _⟩
  · exact h1
  · rw [hn s (List.mem_of_getElem? h2)] at h3; cases h3
theorem isPlC_first {pr : GCube → Bool} {xs : List GCube} {r : Int} {k : Nat} {s : GCube} (h : isPlC pr xs r) (hs : xs[k]? = some s) (hp : pr s = true) (hf : ∀ j t, xs[j]? = some t → j < k → pr t = false) : r = k := by
  rcases h with ⟨_, h2⟩ | ⟨j, t, h1, h2, h3, h4⟩
  · rw [h2 s (List.mem_of_getElem? hs)] at hp; cases hp
  · rcases Nat.lt_trichotomy j k with e | e | e
    · rw [hf j t h2 e] at h3; cases h3
    · rw [h1, e]
    · rw [h4 k s hs e] at hp; cases hp
/-- What is asked of a test: it answers wherever I holds, and turns nothing that is there; I stays where blocks are added. -/
def TestC (D : GCube → Prop) (g : Nat) (lb : Array Value) (pr : GCube → Bool) (I : World → Prop) : Prop :=
  ∀ (W : World) (s : GCube), D s → I W → Calls Try.prog g (#[.agg #[.int .i64 s.pWest, .int .i64 s.pSouth, .int .i64 s.pSide, .int .i64 s.pFrom, .int .i64 s.pTo]] ++ lb) W fun e w' => e = .returned (.bool (pr s)) ∧ Below W.heap.size W w'
set_option maxRecDepth 100000 in
set_option maxHeartbeats 2000000 in
theorem idxFnC (D : GCube → Prop) (I : World → Prop) (pr : GCube → Bool) (g : Nat) (lb : Array Value) (eg : ∀ args w, (callFunc g args).run Try.prog w = .ok (.enter g args) w) (xs : List GCube) (v : Value) (r : Int) (w : World) (L B : Nat) (h : CubeL w B v xs) (hB : B ≤ w.heap.size) (hL : L ≤ w.heap.size) (hn : xs.length ≤ 1048576) (hr : isPlC pr xs r) (hp : TestC D g lb pr I) (hD : ∀ s ∈ xs, D s) (hst : StayI I) (hi0 : I w) :
    Calls Try.prog 83 #[v, .func (.func g) #[] lb] w fun e w' => e = .returned (.int .i64 r) ∧ Below w.heap.size w w' := by
  obtain ⟨ao, cap, rfl, hcap, hmax, hnn, hc⟩ := h
  have HC := Lib.hid hc
  have HR := Lib.hid hr
  have HP := Lib.hid hp
  have HD0 := Lib.hid hD
  have HST := Lib.hid hst
  have HI0 := Lib.hid hi0
  clear hc hnn hr hp hD hst hi0
  go_enter Try.func83, Try.ntmps83
  go_wp2
  go_loopw [8] (fun i wr => ∃ (k : Nat), k ≤ xs.length ∧ i = .int .i64 k ∧ Hid (∀ j s, xs[j]? = some s → j < k → pr s = false) ∧ Below w.heap.size w wr)
    (fun i _ => xs.length - (intOf i).toNat)
  case atStart => exact ⟨0, Nat.zero_le _, rfl, Lib.hid (fun _ _ _ h => by omega), Below.refl _ _⟩
  case round =>
    obtain ⟨k, hk, rfl, HN, hbl⟩ := hrel
    have hsz := hbl.size
    by_cases hlt : k < xs.length
    case neg =>
      obtain rfl : k = xs.length := by omega
      have HX : Hid (-1 = r) := Lib.hid (isPlC_none HR.out (fun s hs => by
        obtain ⟨j, hj⟩ := List.mem_iff_getElem?.1 hs
        exact HN.out j s hj (List.getElem?_eq_some_iff.1 hj).1)).symm
      go_wp2
      go_ret
      exact ⟨ret_int HX.out, hbl⟩
    obtain ⟨s, hs⟩ := get_of_lt hlt
    obtain ⟨b, off, rfl, hb, hcell⟩ := HC.out k s hs
    have c0 : wr.cell? ⟨b, off + k * 5, none⟩ = some (.int .i64 s.pWest) := cellOf hbl (by omega) (hcell 0 _ rfl)
    have c1 : wr.cell? ⟨b, off + k * 5 + 1, none⟩ = some (.int .i64 s.pSouth) := cellOf hbl (by omega) (hcell 1 _ rfl)
    have c2 : wr.cell? ⟨b, off + k * 5 + 2, none⟩ = some (.int .i64 s.pSide) := cellOf hbl (by omega) (hcell 2 _ rfl)
    have c3 : wr.cell? ⟨b, off + k * 5 + 3, none⟩ = some (.int .i64 s.pFrom) := cellOf hbl (by omega) (hcell 3 _ rfl)
    have c4 : wr.cell? ⟨b, off + k * 5 + 4, none⟩ = some (.int .i64 s.pTo) := cellOf hbl (by omega) (hcell 4 _ rfl)
    have HS := Lib.hid hs
    have hk1 : (k : Int) < (xs.length : Int) := by omega
    clear hs hcell
    have hcall := HP.out wr s (HD0.out s (List.mem_of_getElem? HS.out)) (HST.out w wr HI0.out hbl)
    cases hq : pr s with
    | true =>
      rw [hq] at hcall
      have HX : Hid ((k : Int) = r) := Lib.hid (isPlC_first HR.out HS.out hq HN.out).symm
      clear hq
      go_wp2_with (go_at_fn g; refine hcall.mono ?_; rintro e w2 ⟨rfl, hb2⟩)
      go_ret
      exact ⟨ret_int HX.out, hbl.trans (hb2.mono hsz)⟩
    | false =>
      rw [hq] at hcall
      have HN2 : Hid (∀ j t, xs[j]? = some t → j < k + 1 → pr t = false) := Lib.hid (fun j t ht hj => by
        by_cases e : j = k
        · subst e; have := HS.out; rw [ht] at this; cases this; exact hq
        · exact HN.out j t ht (by omega))
      clear hq
      go_wp2_with (go_at_fn g; refine hcall.mono ?_; rintro e w2 ⟨rfl, hb2⟩)
      go_roundw
      case rel => exact ⟨k + 1, by omega, by go_num, HN2, hbl.trans (hb2.mono hsz)⟩
      case measure => simp [intOf]; omega

set_option maxRecDepth 100000 in
set_option maxHeartbeats 2000000 in
theorem implHas12 (b : GCube) (o : GOrigin) (u : Bool) (w : World) (hb : okCb b) (hu : holdsC b o = u) :
    Calls Try.prog 85 #[aggCb b, aggO o] w fun e w' => e = .returned (.bool u) ∧ Below w.heap.size w w' := by
  rw [holdsC_eq] at hu
  generalize h0 : inB o.pX b.pWest (b.pWest + b.pSide - 1) = b0 at hu
  generalize h1 : inB o.pY b.pSouth (b.pSouth + b.pSide - 1) = b1 at hu
  generalize h2 : inB o.pTick b.pFrom b.pTo = b2 at hu
  have H0 := Lib.hid h0
  have H1 := Lib.hid h1
  have H2 := Lib.hid h2
  have HU := Lib.hid hu
  clear hu h0 h1 h2
  obtain ⟨W0, hW0⟩ : ∃ W0, (w.alloc (objCb b)).alloc (objO o) = W0 := ⟨_, rfl⟩
  have N0 : Below w.heap.size w W0 := hW0 ▸ (below_cube (w := w) (Nat.le_refl _) (objCb b)).alloc (below_cube (w := w) (Nat.le_refl _) (objCb b)).size (objO o)
  have bB : Bx W0 w.heap.size [.int .i64 b.pWest, .int .i64 b.pSouth, .int .i64 b.pSide, .int .i64 b.pFrom, .int .i64 b.pTo] := hW0 ▸ (Bx.new w [.int .i64 b.pWest, .int .i64 b.pSouth, .int .i64 b.pSide, .int .i64 b.pFrom, .int .i64 b.pTo] 25).alloc (objO o)
  have bO : Bx W0 (w.heap.size + 1) [.int .i64 o.pX, .int .i64 o.pY, .int .i64 o.pTick] := hW0 ▸ Bx.new1 w (objCb b) [.int .i64 o.pX, .int .i64 o.pY, .int .i64 o.pTick] 50
  have sb := okSide_bd hb.1
  have pb := hb.2.1
  have r1 : wrap64 (b.pWest + b.pSide) = b.pWest + b.pSide := by unfold wrap64; omega
  have r2 : wrap64 (b.pWest + b.pSide - 1) = b.pWest + b.pSide - 1 := by unfold wrap64; omega
  have r3 : wrap64 (b.pSouth + b.pSide) = b.pSouth + b.pSide := by unfold wrap64; omega
  have r4 : wrap64 (b.pSouth + b.pSide - 1) = b.pSouth + b.pSide - 1 := by unfold wrap64; omega
  obtain ⟨W1, hW1⟩ : ∃ W1, W0.alloc (.cells #[.int .i64 o.pX] 3) = W1 := ⟨_, rfl⟩
  have N1 : Below w.heap.size w W1 := hW1 ▸ N0.alloc N0.size _
  have bB1 : Bx W1 w.heap.size [.int .i64 b.pWest, .int .i64 b.pSouth, .int .i64 b.pSide, .int .i64 b.pFrom, .int .i64 b.pTo] := hW1 ▸ bB.alloc _
  have bO1 : Bx W1 (w.heap.size + 1) [.int .i64 o.pX, .int .i64 o.pY, .int .i64 o.pTick] := hW1 ▸ bO.alloc _
  have x1 : Bx W1 W0.heap.size [.int .i64 o.pX] := hW1 ▸ Bx.new W0 [.int .i64 o.pX] 3
  obtain ⟨W2, hW2⟩ : ∃ W2, W1.alloc (.cells #[.int .i64 o.pY] 3) = W2 := ⟨_, rfl⟩
  have N2 : Below w.heap.size w W2 := hW2 ▸ N1.alloc N1.size _
  have bB2 : Bx W2 w.heap.size [.int .i64 b.pWest, .int .i64 b.pSouth, .int .i64 b.pSide, .int .i64 b.pFrom, .int .i64 b.pTo] := hW2 ▸ bB1.alloc _
  have bO2 : Bx W2 (w.heap.size + 1) [.int .i64 o.pX, .int .i64 o.pY, .int .i64 o.pTick] := hW2 ▸ bO1.alloc _
  have x2 : Bx W2 W1.heap.size [.int .i64 o.pY] := hW2 ▸ Bx.new W1 [.int .i64 o.pY] 3
  obtain ⟨W3, hW3⟩ : ∃ W3, W2.alloc (.cells #[.int .i64 o.pTick] 3) = W3 := ⟨_, rfl⟩
  have N3 : Below w.heap.size w W3 := hW3 ▸ N2.alloc N2.size _
  have x3 : Bx W3 W2.heap.size [.int .i64 o.pTick] := hW3 ▸ Bx.new W2 [.int .i64 o.pTick] 3
  have a0 := bB.2 0 _ rfl
  have a1 := bB.2 1 _ rfl
  have a2 := bB.2 2 _ rfl
  have a3 := bB.2 3 _ rfl
  have a4 := bB.2 4 _ rfl
  have o0 := bO.2 0 _ rfl
  have o1 := bO.2 1 _ rfl
  have o2 := bO.2 2 _ rfl
  go_enter Try.func85, Try.ntmps85
  go_wp2_with fail
  refine (withinOneV _ _ o.pX _ b0 _ x1 H0.out).mono ?_
  rintro e w9 ⟨rfl, q9⟩
  obtain rfl : W1 = w9 := q9.symm
  clear a0 a1 a2 a3 a4 o0 o1 o2 hW0 hW1
  cases b0
  case false =>
    have HF : Hid (false = u) := Lib.hid (by rw [← HU.out]; simp)
    go_wp2
    go_ret
    exact ⟨ret_bool HF.out, N1⟩
  have a0 := bB1.2 0 _ rfl
  have a1 := bB1.2 1 _ rfl
  have a2 := bB1.2 2 _ rfl
  have a3 := bB1.2 3 _ rfl
  have a4 := bB1.2 4 _ rfl
  have o0 := bO1.2 0 _ rfl
  have o1 := bO1.2 1 _ rfl
  have o2 := bO1.2 2 _ rfl
  go_wp2_with fail
  refine (withinOneV _ _ o.pY _ b1 _ x2 H1.out).mono ?_
  rintro e w9 ⟨rfl, q9⟩
  obtain rfl : W2 = w9 := q9.symm
  clear a0 a1 a2 a3 a4 o0 o1 o2 hW2
  cases b1
  case false =>
    have HF : Hid (false = u) := Lib.hid (by rw [← HU.out]; simp)
    go_wp2
    go_ret
    exact ⟨ret_bool HF.out, N2⟩
  have a0 := bB2.2 0 _ rfl
  have a1 := bB2.2 1 _ rfl
  have a2 := bB2.2 2 _ rfl
  have a3 := bB2.2 3 _ rfl
  have a4 := bB2.2 4 _ rfl
  have o0 := bO2.2 0 _ rfl
  have o1 := bO2.2 1 _ rfl
  have o2 := bO2.2 2 _ rfl
  go_wp2_with fail
  refine (withinOneV _ _ o.pTick _ b2 _ x3 H2.out).mono ?_
  rintro e w9 ⟨rfl, q9⟩
  obtain rfl : W3 = w9 := q9.symm
  have HF : Hid (b2 = u) := Lib.hid (by rw [← HU.out]; simp)
  go_wp2
  go_ret
  exact ⟨ret_bool HF.out, N3⟩
theorem cloHo (b : GCube) (o : GOrigin) (g : Nat) (u : Bool) (w : World) (hb : okCb b) (bO : Bx w g [.int .i64 o.pX, .int .i64 o.pY, .int .i64 o.pTick]) (hu : holdsC b o = u) :
    Calls Try.prog 84 #[aggCb b, .pointer (some ⟨g, 0, none⟩)] w fun e w' => e = .returned (.bool u) ∧ Below w.heap.size w w' := by
  have N := below_cube (w := w) (Nat.le_refl _) (objCb b)
  have CH := Lib.hid (fun W => implHas12 b o u W hb hu)
  have bO1 := bO.alloc (objCb b)
  have o0 := bO1.2 0 _ rfl
  have o1 := bO1.2 1 _ rfl
  have o2 := bO1.2 2 _ rfl
  clear hb hu bO bO1
  go_enter Try.func84, Try.ntmps84
  go_wp2_with fail
  refine (CH.out _).mono ?_
  rintro e w1 ⟨rfl, hb⟩
  go_wp2
  go_ret
  exact ⟨rfl, N.trans (hb.mono N.size)⟩
theorem entersHo : ∀ args w, (callFunc 84 args).run Try.prog w = .ok (.enter 84 args) w := enters_of Try.func84 (by kernel_rfl) rfl
theorem all_no {xs : List GCube} {k : Nat} {a : GCube} (ha : xs[k]? = some a) (h : goodCb a = false) : xs.all goodCb = false := by
  rw [List.all_eq_false]
  exact ⟨a, List.mem_of_getElem? ha, by rw [h]; exact Bool.false_ne_true⟩
theorem all_yes {xs : List GCube} (h : ∀ (j : Nat) b, j < xs.length → xs[j]? = some b → okCb b) : xs.all goodCb = true := by
  rw [List.all_eq_true]
  exact fun c hc => goodCb_mk (all_at h c hc)
set_option maxRecDepth 100000 in
set_option maxHeartbeats 4000000 in
theorem implCbs (xs : List GCube) (v : Value) (u : Bool) (w : World) (B : Nat) (h : CubeL w B v xs) (hB : B ≤ w.heap.size) (hn : xs.length ≤ 1048576) (hu : xs.all goodCb = u) :
    Calls Try.prog 82 #[v] w fun e w' => e = .returned (.bool u) ∧ Below w.heap.size w w' := by
  obtain ⟨ao, cap, rfl, hcap, hmax, -, hc⟩ := h
  unfold maxLen at hmax
  have HR := Lib.hid hu
  have HC := Lib.hid hc
  clear hc hu
  go_enter Try.func82, Try.ntmps82
  go_wp2
  go_loopw [7] (fun i wr => ∃ k : Nat, k ≤ xs.length ∧ i = .int .i64 k ∧ Hid (∀ (j : Nat) b, j < k → xs[j]? = some b → okCb b) ∧ Below w.heap.size w wr) (fun i _ => xs.length - (intOf i).toNat)
  case atStart => exact ⟨0, Nat.zero_le _, rfl, Lib.hid (fun j b hj => by omega), Below.refl _ _⟩
  case round =>
    obtain ⟨k, hk, rfl, HU, hbl⟩ := hrel
    have hsz := hbl.size
    by_cases hlt : k < xs.length
    case neg =>
      obtain rfl : k = xs.length := by omega
      have HF : Hid (true = u) := Lib.hid (by rw [← HR.out]; exact (all_yes HU.out).symm)
      go_wp2
      go_ret
      exact ⟨ret_bool HF.out, hbl⟩
    have hk0 : (0 : Int) ≤ (k : Int) := by omega
    have hk1 : (k : Int) < (xs.length : Int) := by omega
    have hk2 : (k : Int) ≤ 1048576 := by omega
    obtain ⟨a, ha⟩ := get_of_lt hlt
    obtain ⟨b, off, rfl, hb, hcell⟩ := HC.out k a ha
    have c0 : wr.cell? ⟨b, off + k * 5, none⟩ = some (.int .i64 a.pWest) := cellOf hbl (by omega) (hcell 0 _ rfl)
    have c1 : wr.cell? ⟨b, off + k * 5 + 1, none⟩ = some (.int .i64 a.pSouth) := cellOf hbl (by omega) (hcell 1 _ rfl)
    have c2 : wr.cell? ⟨b, off + k * 5 + 2, none⟩ = some (.int .i64 a.pSide) := cellOf hbl (by omega) (hcell 2 _ rfl)
    have c3 : wr.cell? ⟨b, off + k * 5 + 3, none⟩ = some (.int .i64 a.pFrom) := cellOf hbl (by omega) (hcell 3 _ rfl)
    have c4 : wr.cell? ⟨b, off + k * 5 + 4, none⟩ = some (.int .i64 a.pTo) := cellOf hbl (by omega) (hcell 4 _ rfl)
    obtain ⟨W3, hW3⟩ : ∃ W3, wr.alloc (objCb a) = W3 := ⟨_, rfl⟩
    have A3 : Below wr.heap.size wr W3 := hW3 ▸ (Below.refl _ _).alloc (Nat.le_refl _) _
    have bA : Bx W3 wr.heap.size [.int .i64 a.pWest, .int .i64 a.pSouth, .int .i64 a.pSide, .int .i64 a.pFrom, .int .i64 a.pTo] := hW3 ▸ Bx.new wr [.int .i64 a.pWest, .int .i64 a.pSouth, .int .i64 a.pSide, .int .i64 a.pFrom, .int .i64 a.pTo] 25
    have N3 := hbl.trans (A3.mono hsz)
    have a0 := bA.2 0 _ rfl
    have a1 := bA.2 1 _ rfl
    have a2 := bA.2 2 _ rfl
    have a3 := bA.2 3 _ rfl
    have a4 := bA.2 4 _ rfl
    have HA := Lib.hid ha
    clear ha hcell A3
    cases h1 : goodCb a with
    | false =>
      have HF : Hid (false = u) := Lib.hid (by rw [← HR.out]; exact (all_no HA.out h1).symm)
      have C1 := Lib.hid (fun W => implGoodCb a false W h1)
      clear h1
      go_wp2_with fail
      refine (C1.out _).mono ?_
      rintro e w4 ⟨rfl, hb4⟩
      clear a0 a1 a2 a3 a4 c0 c1 c2 c3 c4
      go_wp2
      go_ret
      exact ⟨ret_bool HF.out, N3.trans (hb4.mono N3.size)⟩
    | true =>
      have HU2 : Hid (∀ (j : Nat) b, j < k + 1 → xs[j]? = some b → okCb b) := Lib.hid (fun j b hj hjb => by
        by_cases q : j < k
        · exact HU.out j b q hjb
        · obtain rfl : j = k := by omega
          rw [HA.out] at hjb
          cases hjb
          exact goodCb_yes h1)
      have C1 := Lib.hid (fun W => implGoodCb a true W h1)
      clear h1
      go_wp2_with fail
      refine (C1.out _).mono ?_
      rintro e w4 ⟨rfl, hb4⟩
      clear a0 a1 a2 a3 a4 c0 c1 c2 c3 c4
      go_wp2
      go_roundw
      case rel => exact ⟨k + 1, by omega, by go_num, HU2, N3.trans (hb4.mono N3.size)⟩
      case measure => simp [intOf]; omega
theorem ho_no {l : List GCube} {o : GOrigin} (h : okHo l o = false) : Ending.returned (.tuple #[.int .i64 0, .bool false]) = .returned (.tuple #[.int .i64 (numHo l o), .bool (okHo l o)]) := by rw [numHo_no h, h]
theorem ho_yes {l : List GCube} {o : GOrigin} {k : Int} (h : okHo l o = true ∧ numHo l o = k) : Ending.returned (.tuple #[.int .i64 k, .bool true]) = .returned (.tuple #[.int .i64 (numHo l o), .bool (okHo l o)]) := by rw [h.1, h.2]
theorem askHo_bad1 {l : List GCube} {o : GOrigin} (h : l.all goodCb = false) : okHo l o = false := by unfold okHo askHo; rw [h]; rfl
set_option maxRecDepth 100000 in
set_option maxHeartbeats 4000000 in
theorem implHo (xs : List GCube) (v : Value) (o : GOrigin) (v2 : Value) (w : World) (B : Nat) (h : CubeL w B v xs) (h2 : OriginVL w B v2 o) (hB : B ≤ w.heap.size) (hn : szsCube xs ≤ 1048576) (_ : sz1Origin o ≤ 1048576) (hw : ∀ s ∈ xs, wfCube s) (hw2 : wfOrigin o) :
    Calls Try.prog 41 #[v, v2] w fun e w' => e = .returned (.tuple #[.int .i64 (numHo xs o), .bool (okHo xs o)]) ∧ Below w.heap.size w w' := by
  obtain rfl := h2.form
  clear h2
  have hl := Nat.le_trans (szsCube_len xs) hn
  obtain ⟨W0, hW0⟩ : ∃ W0, w.alloc (.cells #[.int .i64 o.pX, .int .i64 o.pY, .int .i64 o.pTick] 50) = W0 := ⟨_, rfl⟩
  have N0 : Below w.heap.size w W0 := hW0 ▸ (Below.refl w.heap.size w).alloc (Nat.le_refl _) _
  have bO : Bx W0 w.heap.size [.int .i64 o.pX, .int .i64 o.pY, .int .i64 o.pTick] := hW0 ▸ Bx.new w [.int .i64 o.pX, .int .i64 o.pY, .int .i64 o.pTick] 50
  have z0 := N0.size
  have h0 := h.below (N0.mono hB)
  have CA := Lib.hid (fun u hu => implCbs xs v u W0 B h0 (Nat.le_trans hB z0) hl hu)
  have HL := Lib.hid (fun W (q : Below w.heap.size w W) => h.below (q.mono hB))
  obtain ⟨ao, cap, rfl⟩ := h.form
  clear h h0
  by_cases h64 : xs.length ≤ 64
  case neg =>
    have HF := Lib.hid (ho_no (askHo_many (o := o) (show 64 < xs.length by omega)))
    have h65 : (64 : Int) < (xs.length : Int) := by omega
    clear CA bO
    go_enter Try.func41, Try.ntmps41
    go_wp2
    go_ret2
    exact ⟨HF.out, N0⟩
  have h65 : ¬ (64 : Int) < (xs.length : Int) := by omega
  cases h1 : xs.all goodCb with
  | false =>
    have C1 := Lib.hid (CA.out false h1)
    have HF := Lib.hid (ho_no (askHo_bad1 (o := o) h1))
    clear CA h1
    go_enter Try.func41, Try.ntmps41
    go_wp2_with fail
    refine C1.out.mono ?_
    rintro e w1 ⟨rfl, hb⟩
    go_wp2
    go_ret2
    exact ⟨HF.out, N0.trans (hb.mono z0)⟩
  | true =>
  have C1 := Lib.hid (CA.out true h1)
  cases h2 : goodOr o with
  | false =>
    have C2 := Lib.hid (fun W => implOrG o false W h2)
    have HF := Lib.hid (ho_no (askHo_bad (l := xs) h2))
    clear CA h1 h2
    go_enter Try.func41, Try.ntmps41
    go_wp2_with fail
    refine C1.out.mono ?_
    rintro e w1 ⟨rfl, hb⟩
    have N1 := N0.trans (hb.mono z0)
    have bO1 := bO.below hb
    have o0 := bO1.2 0 _ rfl
    have o1 := bO1.2 1 _ rfl
    have o2 := bO1.2 2 _ rfl
    clear bO bO1 hb
    go_wp2_with fail
    refine (C2.out _).mono ?_
    rintro e w2 ⟨rfl, hb⟩
    go_wp2
    go_ret2
    exact ⟨HF.out, N1.trans (hb.mono N1.size)⟩
  | true =>
  have C2 := Lib.hid (fun W => implOrG o true W h2)
  have hall : ∀ c ∈ xs, okCb c := fun c hc => goodCb_yes (List.all_eq_true.1 h1 c hc)
  have HK := Lib.hid (askHo_mk hall h2 h64)
  obtain ⟨r, hr⟩ := isPlC_ex (holdsC · o) xs
  have CX := Lib.hid (fun W (q : Below w.heap.size w W) (bx : Bx W w.heap.size [.int .i64 o.pX, .int .i64 o.pY, .int .i64 o.pTick]) => idxFnC okCb (fun W => Bx W w.heap.size [.int .i64 o.pX, .int .i64 o.pY, .int .i64 o.pTick]) (holdsC · o) 84 #[.pointer (some ⟨w.heap.size, 0, none⟩)] entersHo xs (.slice ao xs.length cap) r W W.heap.size B (HL.out W q) (Nat.le_trans hB q.size) (Nat.le_refl _) hl hr (fun W2 s hs hx => cloHo s o _ _ W2 hs hx rfl) hall (fun _ _ hi q => hi.below q) bx)
  have HR := Lib.hid hr
  clear CA h1 h2 hall hr
  go_enter Try.func41, Try.ntmps41
  go_wp2_with fail
  refine C1.out.mono ?_
  rintro e w1 ⟨rfl, hb⟩
  have N1 := N0.trans (hb.mono z0)
  have bO1 := bO.below hb
  have o0 := bO1.2 0 _ rfl
  have o1 := bO1.2 1 _ rfl
  have o2 := bO1.2 2 _ rfl
  clear bO hb
  go_wp2_with fail
  refine (C2.out _).mono ?_
  rintro e w2 ⟨rfl, hb⟩
  have N2 := N1.trans (hb.mono N1.size)
  have bO2 := bO1.below hb
  clear bO1 hb o0 o1 o2
  go_wp2_with fail
  refine (CX.out _ N2 bO2).mono ?_
  rintro e w3 ⟨rfl, hb⟩
  have N3 := N2.trans (hb.mono N2.size)
  rcases HR.out with ⟨e1, hno⟩ | ⟨k, s, e1, hs, hp, hf⟩
  · have HF := Lib.hid (ho_no (okHo_none hno))
    subst e1
    clear hno
    go_wp2
    go_ret2
    exact ⟨HF.out, N3⟩
  · have HF := Lib.hid (ho_yes (numHo_at HK.out hs hp (fun j d hj hd => hf j d hd hj)))
    have hk64 : k < xs.length := (List.getElem?_eq_some_iff.1 hs).1
    subst e1
    have hk0 : (0 : Int) ≤ (k : Int) := by omega
    have hmx : max 0 (k : Int) = (k : Int) := by omega
    clear hs hp hf
    go_wp2
    go_ret2
    exact ⟨HF.out, N3⟩
end Go.Proofs.Ytoogofceoinniaa
