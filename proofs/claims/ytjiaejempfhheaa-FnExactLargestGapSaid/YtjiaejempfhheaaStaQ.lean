/- Gaps. -/
import Derived.Test.YtjiaejempfhheaaStaL
import Derived.IntWalk
namespace Go.Proofs.Ytjiaejempfhheaa
open Go.ChangeShapes Go.WideShapes Go.ChangeAt Go.RowKit Go.ChangeMaps Go.Sort
set_option linter.unusedSimpArgs false
set_option linter.unusedVariables false

def quarterR (dx dy : Int) : Int × Bool := if 0 < dx ∧ 0 ≤ dy then (0, true) else if dx ≤ 0 ∧ 0 < dy then (1, true) else if dx < 0 ∧ dy ≤ 0 then (2, true) else if 0 ≤ dx ∧ dy < 0 then (3, true) else (0, false)
theorem quarterR_five (dx dy : Int) : quarterR dx dy = (0, true) ∨ quarterR dx dy = (1, true) ∨ quarterR dx dy = (2, true) ∨ quarterR dx dy = (3, true) ∨ quarterR dx dy = (0, false) := by
  unfold quarterR; repeat (first | split | simp)
def quarterI (dx dy : Int) : Int := if (quarterR dx dy).2 then (quarterR dx dy).1 else -1
theorem ret_ib {a c : Int} {b d : Bool} (h : (a, b) = (c, d)) : Ending.returned (.tuple #[.int .i64 a, .bool b]) = .returned (.tuple #[.int .i64 c, .bool d]) := by cases h; rfl
set_option maxHeartbeats 1000000 in
theorem implQ (dx dy u : Int) (b : Bool) (w : World) (h : quarterR dx dy = (u, b)) :
    Calls Try.prog 96 #[.int .i64 dx, .int .i64 dy] w fun e w' => e = .returned (.tuple #[.int .i64 u, .bool b]) ∧ w = w' := by
  have H := Lib.hid h
  clear h
  have hx3 : 0 < dx ∨ dx = 0 ∨ dx < 0 := by omega
  have hy3 : 0 < dy ∨ dy = 0 ∨ dy < 0 := by omega
  rcases hx3 with hx | hx | hx <;> rcases hy3 with hy | hy | hy
  · have E := Lib.hid (H.out.symm.trans (show quarterR dx dy = (0, true) by unfold quarterR; repeat (first | rw [if_pos (by omega)] | rw [if_neg (by omega)])))
    go_enter Try.func96, Try.ntmps96
    go_wp2
    go_ret2
    exact ⟨ret_ib E.out.symm, rfl⟩
  · have E := Lib.hid (H.out.symm.trans (show quarterR dx dy = (0, true) by unfold quarterR; repeat (first | rw [if_pos (by omega)] | rw [if_neg (by omega)])))
    have hy1 : 0 ≤ dy := by omega
    have hy2 : dy ≤ 0 := by omega
    clear hy
    go_enter Try.func96, Try.ntmps96
    go_wp2
    go_ret2
    exact ⟨ret_ib E.out.symm, rfl⟩
  · have E := Lib.hid (H.out.symm.trans (show quarterR dx dy = (3, true) by unfold quarterR; repeat (first | rw [if_pos (by omega)] | rw [if_neg (by omega)])))
    go_enter Try.func96, Try.ntmps96
    go_wp2
    go_ret2
    exact ⟨ret_ib E.out.symm, rfl⟩
  · have E := Lib.hid (H.out.symm.trans (show quarterR dx dy = (1, true) by unfold quarterR; repeat (first | rw [if_pos (by omega)] | rw [if_neg (by omega)])))
    have hx1 : 0 ≤ dx := by omega
    have hx2 : dx ≤ 0 := by omega
    clear hx
    go_enter Try.func96, Try.ntmps96
    go_wp2
    go_ret2
    exact ⟨ret_ib E.out.symm, rfl⟩
  · have E := Lib.hid (H.out.symm.trans (show quarterR dx dy = (0, false) by unfold quarterR; repeat (first | rw [if_pos (by omega)] | rw [if_neg (by omega)])))
    have hx1 : 0 ≤ dx := by omega
    have hx2 : dx ≤ 0 := by omega
    clear hx
    have hy1 : 0 ≤ dy := by omega
    have hy2 : dy ≤ 0 := by omega
    clear hy
    go_enter Try.func96, Try.ntmps96
    go_wp2
    go_ret2
    exact ⟨ret_ib E.out.symm, rfl⟩
  · have E := Lib.hid (H.out.symm.trans (show quarterR dx dy = (3, true) by unfold quarterR; repeat (first | rw [if_pos (by omega)] | rw [if_neg (by omega)])))
    have hx1 : 0 ≤ dx := by omega
    have hx2 : dx ≤ 0 := by omega
    clear hx
    go_enter Try.func96, Try.ntmps96
    go_wp2
    go_ret2
    exact ⟨ret_ib E.out.symm, rfl⟩
  · have E := Lib.hid (H.out.symm.trans (show quarterR dx dy = (1, true) by unfold quarterR; repeat (first | rw [if_pos (by omega)] | rw [if_neg (by omega)])))
    go_enter Try.func96, Try.ntmps96
    go_wp2
    go_ret2
    exact ⟨ret_ib E.out.symm, rfl⟩
  · have E := Lib.hid (H.out.symm.trans (show quarterR dx dy = (2, true) by unfold quarterR; repeat (first | rw [if_pos (by omega)] | rw [if_neg (by omega)])))
    have hy1 : 0 ≤ dy := by omega
    have hy2 : dy ≤ 0 := by omega
    clear hy
    go_enter Try.func96, Try.ntmps96
    go_wp2
    go_ret2
    exact ⟨ret_ib E.out.symm, rfl⟩
  · have E := Lib.hid (H.out.symm.trans (show quarterR dx dy = (2, true) by unfold quarterR; repeat (first | rw [if_pos (by omega)] | rw [if_neg (by omega)])))
    go_enter Try.func96, Try.ntmps96
    go_wp2
    go_ret2
    exact ⟨ret_ib E.out.symm, rfl⟩
set_option maxHeartbeats 1000000 in
theorem specQ (s : GStation) (x y u : Int) (w : World) (h : quarterI (s.pX - x) (s.pY - y) = u) :
    Calls Try.prog 97 #[.agg #[.int .i64 s.pId, .string s.pName, .int .i64 s.pX, .int .i64 s.pY, .int .i64 s.pGain, .int .i64 s.pLow, .int .i64 s.pHigh, .int .i64 s.pUntil], .int .i64 x, .int .i64 y] w fun e w' => e = .returned (.int .i64 u) ∧ Below w.heap.size w w' := by
  have H := Lib.hid h
  clear h
  have hx3 : x < s.pX ∨ s.pX = x ∨ s.pX < x := by omega
  have hy3 : y < s.pY ∨ s.pY = y ∨ s.pY < y := by omega
  rcases hx3 with hx | hx | hx <;> rcases hy3 with hy | hy | hy
  · have E := Lib.hid (H.out.symm.trans (show quarterI (s.pX - x) (s.pY - y) = 0 by unfold quarterI; rw [show quarterR (s.pX - x) (s.pY - y) = (0, true) by unfold quarterR; repeat (first | rw [if_pos (by omega)] | rw [if_neg (by omega)])]; rfl))
    go_enter Try.func97, Try.ntmps97
    go_wp2
    go_ret
    exact ⟨ret_int E.out.symm, (Below.refl _ _).alloc (Nat.le_refl _) _⟩
  · have E := Lib.hid (H.out.symm.trans (show quarterI (s.pX - x) (s.pY - y) = 0 by unfold quarterI; rw [show quarterR (s.pX - x) (s.pY - y) = (0, true) by unfold quarterR; repeat (first | rw [if_pos (by omega)] | rw [if_neg (by omega)])]; rfl))
    have hy1 : y ≤ s.pY := by omega
    have hy2 : s.pY ≤ y := by omega
    clear hy
    go_enter Try.func97, Try.ntmps97
    go_wp2
    go_ret
    exact ⟨ret_int E.out.symm, (Below.refl _ _).alloc (Nat.le_refl _) _⟩
  · have E := Lib.hid (H.out.symm.trans (show quarterI (s.pX - x) (s.pY - y) = 3 by unfold quarterI; rw [show quarterR (s.pX - x) (s.pY - y) = (3, true) by unfold quarterR; repeat (first | rw [if_pos (by omega)] | rw [if_neg (by omega)])]; rfl))
    go_enter Try.func97, Try.ntmps97
    go_wp2
    go_ret
    exact ⟨ret_int E.out.symm, (Below.refl _ _).alloc (Nat.le_refl _) _⟩
  · have E := Lib.hid (H.out.symm.trans (show quarterI (s.pX - x) (s.pY - y) = 1 by unfold quarterI; rw [show quarterR (s.pX - x) (s.pY - y) = (1, true) by unfold quarterR; repeat (first | rw [if_pos (by omega)] | rw [if_neg (by omega)])]; rfl))
    have hx1 : x ≤ s.pX := by omega
    have hx2 : s.pX ≤ x := by omega
    clear hx
    go_enter Try.func97, Try.ntmps97
    go_wp2
    go_ret
    exact ⟨ret_int E.out.symm, (Below.refl _ _).alloc (Nat.le_refl _) _⟩
  · have E := Lib.hid (H.out.symm.trans (show quarterI (s.pX - x) (s.pY - y) = -1 by unfold quarterI; rw [show quarterR (s.pX - x) (s.pY - y) = (0, false) by unfold quarterR; repeat (first | rw [if_pos (by omega)] | rw [if_neg (by omega)])]; rfl))
    have hx1 : x ≤ s.pX := by omega
    have hx2 : s.pX ≤ x := by omega
    clear hx
    have hy1 : y ≤ s.pY := by omega
    have hy2 : s.pY ≤ y := by omega
    clear hy
    go_enter Try.func97, Try.ntmps97
    go_wp2
    go_ret
    exact ⟨ret_int E.out.symm, (Below.refl _ _).alloc (Nat.le_refl _) _⟩
  · have E := Lib.hid (H.out.symm.trans (show quarterI (s.pX - x) (s.pY - y) = 3 by unfold quarterI; rw [show quarterR (s.pX - x) (s.pY - y) = (3, true) by unfold quarterR; repeat (first | rw [if_pos (by omega)] | rw [if_neg (by omega)])]; rfl))
    have hx1 : x ≤ s.pX := by omega
    have hx2 : s.pX ≤ x := by omega
    clear hx
    go_enter Try.func97, Try.ntmps97
    go_wp2
    go_ret
    exact ⟨ret_int E.out.symm, (Below.refl _ _).alloc (Nat.le_refl _) _⟩
  · have E := Lib.hid (H.out.symm.trans (show quarterI (s.pX - x) (s.pY - y) = 1 by unfold quarterI; rw [show quarterR (s.pX - x) (s.pY - y) = (1, true) by unfold quarterR; repeat (first | rw [if_pos (by omega)] | rw [if_neg (by omega)])]; rfl))
    go_enter Try.func97, Try.ntmps97
    go_wp2
    go_ret
    exact ⟨ret_int E.out.symm, (Below.refl _ _).alloc (Nat.le_refl _) _⟩
  · have E := Lib.hid (H.out.symm.trans (show quarterI (s.pX - x) (s.pY - y) = 2 by unfold quarterI; rw [show quarterR (s.pX - x) (s.pY - y) = (2, true) by unfold quarterR; repeat (first | rw [if_pos (by omega)] | rw [if_neg (by omega)])]; rfl))
    have hy1 : y ≤ s.pY := by omega
    have hy2 : s.pY ≤ y := by omega
    clear hy
    go_enter Try.func97, Try.ntmps97
    go_wp2
    go_ret
    exact ⟨ret_int E.out.symm, (Below.refl _ _).alloc (Nat.le_refl _) _⟩
  · have E := Lib.hid (H.out.symm.trans (show quarterI (s.pX - x) (s.pY - y) = 2 by unfold quarterI; rw [show quarterR (s.pX - x) (s.pY - y) = (2, true) by unfold quarterR; repeat (first | rw [if_pos (by omega)] | rw [if_neg (by omega)])]; rfl))
    go_enter Try.func97, Try.ntmps97
    go_wp2
    go_ret
    exact ⟨ret_int E.out.symm, (Below.refl _ _).alloc (Nat.le_refl _) _⟩

/-- A station of the list is in this quarter. -/
def hasQ (x y : Int) (q : Int) (xs : List GStation) : Bool := xs.any fun s => decide (quarterI (s.pX - x) (s.pY - y) = q)
theorem hasQ_snoc {x y q : Int} {xs : List GStation} {k : Nat} {s : GStation} (h : xs[k]? = some s) : hasQ x y q (xs.take (k + 1)) = (hasQ x y q (xs.take k) || decide (quarterI (s.pX - x) (s.pY - y) = q)) := by
  unfold hasQ; rw [take_snoc h, List.any_append]; simp
def gapR (x y : Int) (xs : List GStation) : Int × Bool := if hasQ x y 0 xs = false then (0, true) else if hasQ x y 1 xs = false then (1, true) else if hasQ x y 2 xs = false then (2, true) else if hasQ x y 3 xs = false then (3, true) else (0, false)
noncomputable def pairGap (xs : List GStation) (x y : Int) : Int × Bool := if (goodL xs && plcB x y) = true then gapR x y xs else (0, false)
noncomputable def numGap (xs : List GStation) (x y : Int) : Int := (pairGap xs x y).1
noncomputable def okGap (xs : List GStation) (x y : Int) : Bool := (pairGap xs x y).2
theorem gap_no {xs : List GStation} {x y : Int} (h : (goodL xs && plcB x y) = false) : Ending.returned (.tuple #[.int .i64 0, .bool false]) = .returned (.tuple #[.int .i64 (numGap xs x y), .bool (okGap xs x y)]) := by
  have e : pairGap xs x y = (0, false) := by unfold pairGap; rw [if_neg (by rw [h]; simp)]
  unfold numGap okGap; rw [e]
theorem gap_yes {xs : List GStation} {x y a : Int} {b : Bool} (h : (goodL xs && plcB x y) = true) (g : gapR x y xs = (a, b)) : Ending.returned (.tuple #[.int .i64 a, .bool b]) = .returned (.tuple #[.int .i64 (numGap xs x y), .bool (okGap xs x y)]) := by
  have e : pairGap xs x y = (a, b) := by unfold pairGap; rw [if_pos h, g]
  unfold numGap okGap; rw [e]
theorem and_f1' {a b : Bool} (h : ¬ a = true) : (a && b) = false := by rw [bool_f h]; rfl
theorem and_f2' {a b : Bool} (h : b = false) : (a && b) = false := by rw [h, Bool.and_false]
theorem and_t' {a b : Bool} (h : a = true) (g : b = true) : (a && b) = true := by rw [h, g]; rfl


set_option maxRecDepth 100000 in
set_option maxHeartbeats 4000000 in
theorem implGap (xs : List GStation) (v : Value) (x y : Int) (w : World) (B : Nat) (h : StationL w B v xs) (hB : B ≤ w.heap.size) (hn : szsStation xs ≤ 1048576) (hw : ∀ s ∈ xs, wfStation s) (_ : I64 x) (_ : I64 y) :
    Calls Try.prog 42 #[v, .int .i64 x, .int .i64 y] w fun e w' => e = .returned (.tuple #[.int .i64 (numGap xs x y), .bool (okGap xs x y)]) ∧ Below w.heap.size w w' := by
  by_cases hg : goodL xs = true
  case neg =>
    have C := Lib.hid (implAreV xs v w B h hB hn hw false (bool_f hg))
    have HG := Lib.hid (gap_no (xs := xs) (x := x) (y := y) (and_f1' hg))
    clear hg
    obtain ⟨ao, cap, rfl, -⟩ := h
    go_enter Try.func42, Try.ntmps42
    go_wp2_with fail
    refine C.out.mono ?_
    rintro e w1 ⟨rfl, hb⟩
    go_wp2
    go_ret2
    exact ⟨HG.out, hb⟩
  have C := Lib.hid (implAreV xs v w B h hB hn hw true hg)
  have hlen := goodL_len hg
  have HGL := Lib.hid hg
  by_cases hp : plcB x y = true
  case neg =>
    have HG := Lib.hid (gap_no (xs := xs) (x := x) (y := y) (and_f2' (bool_f hp)))
    have HP := Lib.hid (bool_f hp)
    clear hg hp
    obtain ⟨ao, cap, rfl, -⟩ := h
    go_enter Try.func42, Try.ntmps42
    go_wp2_with fail
    refine C.out.mono ?_
    rintro e w1 ⟨rfl, hb⟩
    go_wp2_with fail
    refine (implPlace _ _ false _ HP.out).mono ?_
    rintro e w2 ⟨rfl, rfl⟩
    go_wp2
    go_ret2
    exact ⟨HG.out, hb⟩
  have HA := Lib.hid (and_t' hg hp)
  have HP := Lib.hid hp
  have hpl : (0 ≤ x ∧ x ≤ 999) ∧ 0 ≤ y ∧ y ≤ 999 := by
    unfold plcB at hp
    rw [Bool.and_eq_true] at hp
    exact ⟨inB_iff.1 hp.1, inB_iff.1 hp.2⟩
  obtain ⟨⟨hx1, hx2⟩, hy1, hy2⟩ := hpl
  clear hg hp
  obtain ⟨ao, cap, rfl, hcap, hmax, hnn, hc⟩ := h
  unfold maxLen at hmax
  have HC := Lib.hid hc
  clear hc hnn
  go_enter Try.func42, Try.ntmps42
  go_wp2_with fail
  refine C.out.mono ?_
  rintro e w1 ⟨rfl, hb1⟩
  go_wp2_with fail
  refine (implPlace _ _ true _ HP.out).mono ?_
  rintro e w2 ⟨rfl, rfl⟩
  clear C
  have bt := Bx.new w1 [.bool false, .bool false, .bool false, .bool false] 97
  have C1 : Below w.heap.size w (w1.alloc (.cells #[.bool false, .bool false, .bool false, .bool false] 97)) := hb1.alloc hb1.size _
  have z1 := hb1.size
  generalize hB0 : w1.heap.size = B0 at *
  have HB0 := Lib.hid hB0
  clear hB0
  go_wp2
  rw [HB0.out]
  go_loopw [25] (fun i wr => ∃ k : Nat, k ≤ xs.length ∧ i = .int .i64 k ∧ Bx wr B0 [.bool (hasQ x y 0 (xs.take k)), .bool (hasQ x y 1 (xs.take k)), .bool (hasQ x y 2 (xs.take k)), .bool (hasQ x y 3 (xs.take k))] ∧ Below w.heap.size w wr)
    (fun i _ => xs.length - (intOf i).toNat)
  case atStart => exact ⟨0, Nat.zero_le _, rfl, bt, C1⟩
  case round =>
    obtain ⟨k, hk, rfl, hbx, hbl⟩ := hrel
    have hsz := hbl.size
    clear bt C1
    by_cases hlt : k < xs.length
    case neg =>
      obtain rfl : k = xs.length := by omega
      rw [List.take_length] at hbx
      clear hk hlt
      go_wp2
      generalize h0 : hasQ x y 0 xs = t0 at *
      generalize h1 : hasQ x y 1 xs = t1 at *
      generalize h2 : hasQ x y 2 xs = t2 at *
      generalize h3 : hasQ x y 3 xs = t3 at *
      have d0 := hbx.2 0 _ rfl
      have d1 := hbx.2 1 _ rfl
      have d2 := hbx.2 2 _ rfl
      have d3 := hbx.2 3 _ rfl
      have G0 := Lib.hid h0
      have G1 := Lib.hid h1
      have G2 := Lib.hid h2
      have G3 := Lib.hid h3
      clear h0 h1 h2 h3 hbx
      obtain ⟨wo, rfl⟩ : ∃ wo : World, wo = wr := ⟨_, rfl⟩
      go_loop [45] (fun i => (i = .int .i64 0) ∨ (i = .int .i64 1 ∧ Hid (t0 = true)) ∨ (i = .int .i64 2 ∧ Hid (t0 = true ∧ t1 = true)) ∨ (i = .int .i64 3 ∧ Hid (t0 = true ∧ t1 = true ∧ t2 = true)) ∨ (i = .int .i64 4 ∧ Hid (t0 = true ∧ t1 = true ∧ t2 = true ∧ t3 = true))) (fun i => 4 - (intOf i).toNat)
      case atStart => exact Or.inl rfl
      case round =>
        rcases hrel with rfl | ⟨rfl, HT⟩ | ⟨rfl, HT⟩ | ⟨rfl, HT⟩ | ⟨rfl, HT⟩
        · cases t0
          · have HR := Lib.hid (gap_yes (a := 0) (b := true) HA.out (by unfold gapR; rw [if_pos G0.out]))
            go_wp2
            go_ret2
            exact ⟨HR.out, hbl⟩
          · go_wp2
            go_round
            case rel => exact Or.inr (Or.inl ⟨rfl, Lib.hid trivial⟩)
            case measure => simp [intOf]
        · cases t1
          · have HR := Lib.hid (gap_yes (a := 1) (b := true) HA.out (by unfold gapR; rw [if_neg (by rw [G0.out, HT.out]; simp), if_pos G1.out]))
            go_wp2
            go_ret2
            exact ⟨HR.out, hbl⟩
          · go_wp2
            go_round
            case rel => exact Or.inr (Or.inr (Or.inl ⟨rfl, Lib.hid ⟨HT.out, trivial⟩⟩))
            case measure => simp [intOf]
        · cases t2
          · have HR := Lib.hid (gap_yes (a := 2) (b := true) HA.out (by unfold gapR; rw [if_neg (by rw [G0.out, HT.out.1]; simp), if_neg (by rw [G1.out, HT.out.2]; simp), if_pos G2.out]))
            go_wp2
            go_ret2
            exact ⟨HR.out, hbl⟩
          · go_wp2
            go_round
            case rel => exact Or.inr (Or.inr (Or.inr (Or.inl ⟨rfl, Lib.hid ⟨HT.out.1, HT.out.2, trivial⟩⟩)))
            case measure => simp [intOf]
        · cases t3
          · have HR := Lib.hid (gap_yes (a := 3) (b := true) HA.out (by unfold gapR; rw [if_neg (by rw [G0.out, HT.out.1]; simp), if_neg (by rw [G1.out, HT.out.2.1]; simp), if_neg (by rw [G2.out, HT.out.2.2]; simp), if_pos G3.out]))
            go_wp2
            go_ret2
            exact ⟨HR.out, hbl⟩
          · go_wp2
            go_round
            case rel => exact Or.inr (Or.inr (Or.inr (Or.inr ⟨rfl, Lib.hid ⟨HT.out.1, HT.out.2.1, HT.out.2.2, trivial⟩⟩)))
            case measure => simp [intOf]
        · have HR := Lib.hid (gap_yes (a := 0) (b := false) HA.out (by unfold gapR; rw [if_neg (by rw [G0.out, HT.out.1]; simp), if_neg (by rw [G1.out, HT.out.2.1]; simp), if_neg (by rw [G2.out, HT.out.2.2.1]; simp), if_neg (by rw [G3.out, HT.out.2.2.2]; simp)]))
          go_wp2
          go_ret2
          exact ⟨HR.out, hbl⟩
    obtain ⟨s, hs⟩ := get_of_lt hlt
    obtain ⟨b, off, rfl, hb, hcell⟩ := HC.out k s hs
    have gs := goodS_bounds (goodL_at HGL.out hs)
    have c0 : wr.cell? ⟨b, off + k * 8, none⟩ = some (.int .i64 s.pId) := cellOf hbl (by omega) (hcell 0 _ rfl)
    have c1 : wr.cell? ⟨b, off + k * 8 + 1, none⟩ = some (.string s.pName) := cellOf hbl (by omega) (hcell 1 _ rfl)
    have c2 : wr.cell? ⟨b, off + k * 8 + 2, none⟩ = some (.int .i64 s.pX) := cellOf hbl (by omega) (hcell 2 _ rfl)
    have c3 : wr.cell? ⟨b, off + k * 8 + 3, none⟩ = some (.int .i64 s.pY) := cellOf hbl (by omega) (hcell 3 _ rfl)
    have c4 : wr.cell? ⟨b, off + k * 8 + 4, none⟩ = some (.int .i64 s.pGain) := cellOf hbl (by omega) (hcell 4 _ rfl)
    have c5 : wr.cell? ⟨b, off + k * 8 + 5, none⟩ = some (.int .i64 s.pLow) := cellOf hbl (by omega) (hcell 5 _ rfl)
    have c6 : wr.cell? ⟨b, off + k * 8 + 6, none⟩ = some (.int .i64 s.pHigh) := cellOf hbl (by omega) (hcell 6 _ rfl)
    have c7 : wr.cell? ⟨b, off + k * 8 + 7, none⟩ = some (.int .i64 s.pUntil) := cellOf hbl (by omega) (hcell 7 _ rfl)
    have hS := fun q => hasQ_snoc (x := x) (y := y) (q := q) hs
    have HS := Lib.hid hS
    clear hs hcell hS
    have N1 := (Below.refl wr.heap.size wr).alloc (Nat.le_refl _) (.cells #[.int .i64 s.pId, .string s.pName, .int .i64 s.pX, .int .i64 s.pY, .int .i64 s.pGain, .int .i64 s.pLow, .int .i64 s.pHigh, .int .i64 s.pUntil] 36)
    have hbx1 := hbx.alloc (.cells #[.int .i64 s.pId, .string s.pName, .int .i64 s.pX, .int .i64 s.pY, .int .i64 s.pGain, .int .i64 s.pLow, .int .i64 s.pHigh, .int .i64 s.pUntil] 36)
    have hbl1 := hbl.trans (N1.mono hsz)
    have zB : B0 < wr.heap.size := hbx.1.1
    have hz0 := fun o => hbx1.1.2 o
    have d0 := hbx1.2 0 _ rfl
    have d1 := hbx1.2 1 _ rfl
    have d2 := hbx1.2 2 _ rfl
    have d3 := hbx1.2 3 _ rfl
    have e0 := hbx.2 0 _ rfl
    have e1 := hbx.2 1 _ rfl
    have e2 := hbx.2 2 _ rfl
    have e3 := hbx.2 3 _ rfl
    have hzw := fun o => hbx.1.2 o
    generalize h0 : hasQ x y 0 (xs.take k) = t0 at *
    generalize h1 : hasQ x y 1 (xs.take k) = t1 at *
    generalize h2 : hasQ x y 2 (xs.take k) = t2 at *
    generalize h3 : hasQ x y 3 (xs.take k) = t3 at *
    have G0 := Lib.hid h0
    have G1 := Lib.hid h1
    have G2 := Lib.hid h2
    have G3 := Lib.hid h3
    have HBX := Lib.hid hbx1
    have HBX0 := Lib.hid hbx
    clear h0 h1 h2 h3 hbx hbx1 N1
    have s1 : IntKind.i64.wrap (s.pX - x) = s.pX - x := IntWalk.i64_in _ (by omega)
    rcases quarterR_five (s.pX - x) (s.pY - y) with hq | hq | hq | hq | hq
    · have HI := Lib.hid (show quarterI (s.pX - x) (s.pY - y) = 0 by unfold quarterI; rw [hq]; rfl)
      have HQ := Lib.hid hq
      clear hq
      go_wp2_with fail
      refine (implQ _ _ 0 true _ HQ.out).mono ?_
      rintro e w2 ⟨rfl, rfl⟩
      go_wp2
      go_roundw
      case rel =>
        refine ⟨k + 1, by omega, by go_num, ?_, (hbl.setCell (p := ⟨B0, 0, none⟩) z1 _).alloc (by simp [World.setCell]; exact hsz) _⟩
        have hv := fun q => (HS.out q).trans (by rw [HI.out])
        rw [hv 0, hv 1, hv 2, hv 3, G0.out, G1.out, G2.out, G3.out]
        have := (HBX0.out.set 0 (by simp) (.bool true)).alloc (.cells #[.int .i64 s.pId, .string s.pName, .int .i64 s.pX, .int .i64 s.pY, .int .i64 s.pGain, .int .i64 s.pLow, .int .i64 s.pHigh, .int .i64 s.pUntil] 36)
        simpa using this
      case measure => simp [intOf]; omega
    · have HI := Lib.hid (show quarterI (s.pX - x) (s.pY - y) = 1 by unfold quarterI; rw [hq]; rfl)
      have HQ := Lib.hid hq
      clear hq
      go_wp2_with fail
      refine (implQ _ _ 1 true _ HQ.out).mono ?_
      rintro e w2 ⟨rfl, rfl⟩
      go_wp2
      go_roundw
      case rel =>
        refine ⟨k + 1, by omega, by go_num, ?_, (hbl.setCell (p := ⟨B0, 1, none⟩) z1 _).alloc (by simp [World.setCell]; exact hsz) _⟩
        have hv := fun q => (HS.out q).trans (by rw [HI.out])
        rw [hv 0, hv 1, hv 2, hv 3, G0.out, G1.out, G2.out, G3.out]
        have := (HBX0.out.set 1 (by simp) (.bool true)).alloc (.cells #[.int .i64 s.pId, .string s.pName, .int .i64 s.pX, .int .i64 s.pY, .int .i64 s.pGain, .int .i64 s.pLow, .int .i64 s.pHigh, .int .i64 s.pUntil] 36)
        simpa using this
      case measure => simp [intOf]; omega
    · have HI := Lib.hid (show quarterI (s.pX - x) (s.pY - y) = 2 by unfold quarterI; rw [hq]; rfl)
      have HQ := Lib.hid hq
      clear hq
      go_wp2_with fail
      refine (implQ _ _ 2 true _ HQ.out).mono ?_
      rintro e w2 ⟨rfl, rfl⟩
      go_wp2
      go_roundw
      case rel =>
        refine ⟨k + 1, by omega, by go_num, ?_, (hbl.setCell (p := ⟨B0, 2, none⟩) z1 _).alloc (by simp [World.setCell]; exact hsz) _⟩
        have hv := fun q => (HS.out q).trans (by rw [HI.out])
        rw [hv 0, hv 1, hv 2, hv 3, G0.out, G1.out, G2.out, G3.out]
        have := (HBX0.out.set 2 (by simp) (.bool true)).alloc (.cells #[.int .i64 s.pId, .string s.pName, .int .i64 s.pX, .int .i64 s.pY, .int .i64 s.pGain, .int .i64 s.pLow, .int .i64 s.pHigh, .int .i64 s.pUntil] 36)
        simpa using this
      case measure => simp [intOf]; omega
    · have HI := Lib.hid (show quarterI (s.pX - x) (s.pY - y) = 3 by unfold quarterI; rw [hq]; rfl)
      have HQ := Lib.hid hq
      clear hq
      go_wp2_with fail
      refine (implQ _ _ 3 true _ HQ.out).mono ?_
      rintro e w2 ⟨rfl, rfl⟩
      go_wp2
      go_roundw
      case rel =>
        refine ⟨k + 1, by omega, by go_num, ?_, (hbl.setCell (p := ⟨B0, 3, none⟩) z1 _).alloc (by simp [World.setCell]; exact hsz) _⟩
        have hv := fun q => (HS.out q).trans (by rw [HI.out])
        rw [hv 0, hv 1, hv 2, hv 3, G0.out, G1.out, G2.out, G3.out]
        have := (HBX0.out.set 3 (by simp) (.bool true)).alloc (.cells #[.int .i64 s.pId, .string s.pName, .int .i64 s.pX, .int .i64 s.pY, .int .i64 s.pGain, .int .i64 s.pLow, .int .i64 s.pHigh, .int .i64 s.pUntil] 36)
        simpa using this
      case measure => simp [intOf]; omega
    · have HI := Lib.hid (show quarterI (s.pX - x) (s.pY - y) = -1 by unfold quarterI; rw [hq]; rfl)
      have HQ := Lib.hid hq
      clear hq
      go_wp2_with fail
      refine (implQ _ _ 0 false _ HQ.out).mono ?_
      rintro e w2 ⟨rfl, rfl⟩
      go_wp2
      go_roundw
      case rel =>
        refine ⟨k + 1, by omega, by go_num, ?_, hbl1⟩
        have hv := fun q => (HS.out q).trans (by rw [HI.out])
        rw [hv 0, hv 1, hv 2, hv 3, G0.out, G1.out, G2.out, G3.out]
        have := HBX.out
        simpa using this
      case measure => simp [intOf]; omega

theorem gapR_at {x y q : Int} {xs : List GStation} (h0 : 0 ≤ q) (h3 : q ≤ 3) (h : ∀ p : Int, 0 ≤ p → p < q → hasQ x y p xs = true) (g : hasQ x y q xs = false) : gapR x y xs = (q, true) := by
  have hq : q = 0 ∨ q = 1 ∨ q = 2 ∨ q = 3 := by omega
  unfold gapR
  rcases hq with rfl | rfl | rfl | rfl
  · rw [if_pos g]
  · rw [if_neg (by rw [h 0 (by omega) (by omega)]; simp), if_pos g]
  · rw [if_neg (by rw [h 0 (by omega) (by omega)]; simp), if_neg (by rw [h 1 (by omega) (by omega)]; simp), if_pos g]
  · rw [if_neg (by rw [h 0 (by omega) (by omega)]; simp), if_neg (by rw [h 1 (by omega) (by omega)]; simp), if_neg (by rw [h 2 (by omega) (by omega)]; simp), if_pos g]
theorem gapR_none {x y : Int} {xs : List GStation} (h : ∀ p : Int, 0 ≤ p → p < 4 → hasQ x y p xs = true) : gapR x y xs = (0, false) := by
  unfold gapR
  rw [if_neg (by rw [h 0 (by omega) (by omega)]; simp), if_neg (by rw [h 1 (by omega) (by omega)]; simp), if_neg (by rw [h 2 (by omega) (by omega)]; simp), if_neg (by rw [h 3 (by omega) (by omega)]; simp)]

set_option maxRecDepth 100000 in
set_option maxHeartbeats 4000000 in
theorem specGap (xs : List GStation) (v : Value) (x y : Int) (w : World) (B : Nat) (h : StationL w B v xs) (hB : B ≤ w.heap.size) (hn : szsStation xs ≤ 1048576) (hw : ∀ s ∈ xs, wfStation s) (_ : I64 x) (_ : I64 y) :
    Calls Try.prog 43 #[v, .int .i64 x, .int .i64 y] w fun e w' => e = .returned (.tuple #[.int .i64 (numGap xs x y), .bool (okGap xs x y)]) ∧ Below w.heap.size w w' := by
  by_cases hg : goodL xs = true
  case neg =>
    have C := Lib.hid (specGoodV xs v w B h hB hn hw false (bool_f hg))
    have HG := Lib.hid (gap_no (xs := xs) (x := x) (y := y) (and_f1' hg))
    clear hg
    obtain ⟨ao, cap, rfl, -⟩ := h
    go_enter Try.func43, Try.ntmps43
    go_wp2_with fail
    refine C.out.mono ?_
    rintro e w1 ⟨rfl, hb⟩
    go_wp2
    go_ret2
    exact ⟨HG.out, hb⟩
  have C := Lib.hid (specGoodV xs v w B h hB hn hw true hg)
  have hlen := goodL_len hg
  have HGL := Lib.hid hg
  by_cases hp : plcB x y = true
  case neg =>
    have HG := Lib.hid (gap_no (xs := xs) (x := x) (y := y) (and_f2' (bool_f hp)))
    have HP := Lib.hid (bool_f hp)
    clear hg hp
    obtain ⟨ao, cap, rfl, -⟩ := h
    go_enter Try.func43, Try.ntmps43
    go_wp2_with fail
    refine C.out.mono ?_
    rintro e w1 ⟨rfl, hb⟩
    go_wp2_with fail
    refine (specPlace _ _ false _ HP.out).mono ?_
    rintro e w2 ⟨rfl, rfl⟩
    go_wp2
    go_ret2
    exact ⟨HG.out, hb⟩
  have HA := Lib.hid (and_t' hg hp)
  have HP := Lib.hid hp
  have hpl : (0 ≤ x ∧ x ≤ 999) ∧ 0 ≤ y ∧ y ≤ 999 := by
    unfold plcB at hp
    rw [Bool.and_eq_true] at hp
    exact ⟨inB_iff.1 hp.1, inB_iff.1 hp.2⟩
  obtain ⟨⟨hx1, hx2⟩, hy1, hy2⟩ := hpl
  clear hg hp
  obtain ⟨ao, cap, rfl, hcap, hmax, hnn, hc⟩ := h
  unfold maxLen at hmax
  have HC := Lib.hid hc
  clear hc hnn
  go_enter Try.func43, Try.ntmps43
  go_wp2_with fail
  refine C.out.mono ?_
  rintro e w1 ⟨rfl, hb1⟩
  go_wp2_with fail
  refine (specPlace _ _ true _ HP.out).mono ?_
  rintro e w2 ⟨rfl, rfl⟩
  clear C
  have z1 := hb1.size
  go_wp2
  go_loopw [8] (fun i wr => ∃ q : Int, 0 ≤ q ∧ q ≤ 4 ∧ i = .int .i64 q ∧ Hid (∀ p : Int, 0 ≤ p → p < q → hasQ x y p xs = true) ∧ Below w.heap.size w wr)
    (fun i _ => (4 - intOf i).toNat)
  case atStart => exact ⟨0, by omega, by omega, rfl, Lib.hid (fun p h1 h2 => by omega), hb1⟩
  case round =>
    obtain ⟨q, hq0, hq4, rfl, HT, hbl0⟩ := hrel
    by_cases hq3 : q ≤ 3
    case neg =>
      obtain rfl : q = 4 := by omega
      have HR := Lib.hid (gap_yes HA.out (gapR_none HT.out))
      go_wp2
      go_ret2
      exact ⟨HR.out, hbl0⟩
    have zo := hbl0.size
    obtain ⟨wo, rfl⟩ : ∃ wo : World, wo = wr := ⟨_, rfl⟩
    go_wp2
    go_loopw [9, 10] (fun e i wr => ∃ k : Nat, k ≤ xs.length ∧ i = .int .i64 k ∧ e = .bool (!hasQ x y q (xs.take k)) ∧ Below w.heap.size w wr)
      (fun _ i _ => xs.length - (intOf i).toNat)
    case atStart => exact ⟨0, Nat.zero_le _, rfl, rfl, hbl0⟩
    case round =>
      obtain ⟨k, hk, rfl, rfl, hbl⟩ := hrel
      have hsz := hbl.size
      by_cases hlt : k < xs.length
      case neg =>
        obtain rfl : k = xs.length := by omega
        rw [List.take_length]
        generalize hh : hasQ x y q xs = hv
        have HH := Lib.hid hh
        clear hh
        cases hv
        · have HR := Lib.hid (gap_yes HA.out (gapR_at hq0 hq3 HT.out HH.out))
          go_wp2
          go_ret2
          exact ⟨HR.out, hbl⟩
        · have HT2 : Hid (∀ p : Int, 0 ≤ p → p < q + 1 → hasQ x y p xs = true) := Lib.hid (fun p h1 h2 => by
            by_cases e : p = q
            · rw [e]; exact HH.out
            · exact HT.out p h1 (by omega))
          go_wp2
          go_roundw
          case rel => exact ⟨q + 1, by omega, by omega, rfl, HT2, hbl⟩
          case measure => simp [intOf]; omega
      obtain ⟨s, hs⟩ := get_of_lt hlt
      have HS := Lib.hid (hasQ_snoc (x := x) (y := y) (q := q) hs)
      generalize hh : hasQ x y q (xs.take k) = hv at *
      clear hh
      cases hv
      case true =>
        clear hs
        go_wp2
        go_roundw
        case rel => exact ⟨k + 1, by omega, by go_num, by rw [HS.out]; rfl, hbl⟩
        case measure => simp [intOf]; omega
      obtain ⟨b, off, rfl, hb, hcell⟩ := HC.out k s hs
      have c0 : wr.cell? ⟨b, off + k * 8, none⟩ = some (.int .i64 s.pId) := cellOf hbl (by omega) (hcell 0 _ rfl)
      have c1 : wr.cell? ⟨b, off + k * 8 + 1, none⟩ = some (.string s.pName) := cellOf hbl (by omega) (hcell 1 _ rfl)
      have c2 : wr.cell? ⟨b, off + k * 8 + 2, none⟩ = some (.int .i64 s.pX) := cellOf hbl (by omega) (hcell 2 _ rfl)
      have c3 : wr.cell? ⟨b, off + k * 8 + 3, none⟩ = some (.int .i64 s.pY) := cellOf hbl (by omega) (hcell 3 _ rfl)
      have c4 : wr.cell? ⟨b, off + k * 8 + 4, none⟩ = some (.int .i64 s.pGain) := cellOf hbl (by omega) (hcell 4 _ rfl)
      have c5 : wr.cell? ⟨b, off + k * 8 + 5, none⟩ = some (.int .i64 s.pLow) := cellOf hbl (by omega) (hcell 5 _ rfl)
      have c6 : wr.cell? ⟨b, off + k * 8 + 6, none⟩ = some (.int .i64 s.pHigh) := cellOf hbl (by omega) (hcell 6 _ rfl)
      have c7 : wr.cell? ⟨b, off + k * 8 + 7, none⟩ = some (.int .i64 s.pUntil) := cellOf hbl (by omega) (hcell 7 _ rfl)
      clear hs hcell
      generalize hu : quarterI (s.pX - x) (s.pY - y) = u at *
      have HU := Lib.hid hu
      clear hu
      by_cases huq : u = q
      · have h1 : (u == q) = true := by simp [huq]
        have h2 : (u != q) = false := by simp [huq]
        have HD := Lib.hid (decide_eq_true huq)
        clear huq
        go_wp2_with fail
        refine (specQ s x y u _ HU.out).mono ?_
        rintro e w2 ⟨rfl, hb2⟩
        go_wp2
        go_roundw
        case rel => exact ⟨k + 1, by omega, by go_num, by rw [HS.out, HD.out]; rfl, hbl.trans (hb2.mono hsz)⟩
        case measure => simp [intOf]; omega
      · have h1 : (u == q) = false := by simp [huq]
        have h2 : (u != q) = true := by simp [huq]
        have HD := Lib.hid (decide_eq_false huq)
        clear huq
        go_wp2_with fail
        refine (specQ s x y u _ HU.out).mono ?_
        rintro e w2 ⟨rfl, hb2⟩
        go_wp2
        go_roundw
        case rel => exact ⟨k + 1, by omega, by go_num, by rw [HS.out, HD.out]; rfl, hbl.trans (hb2.mono hsz)⟩
        case measure => simp [intOf]; omega
end Go.Proofs.Ytjiaejempfhheaa
