/- The text of a trace: both programs. -/
import Derived.Test.YtedngmnjpkhbiaaDoorGood
import Derived.Test.YtedngmnjpkhbiaaDoorBx
import Derived.Test.YtedngmnjpkhbiaaDoorTab
import Derived.Test.YtedngmnjpkhbiaaDoorNum
import Derived.BigQuiet
namespace Go.Proofs.YtedngmnjpkhbiaaDoor
open Go.ChangeShapes Go.WideShapes Go.ChangeAt Go.RowKit Go.ChangeMaps
set_option linter.unusedSimpArgs false
set_option linter.unusedVariables false

def tx (t : Tr) : Nat → ByteArray
  | 0 => numB t.st ++ ⟨#[64]⟩ ++ numB t.start ++ ⟨#[58]⟩
  | k + 1 => tx t k ++ ⟨#[32]⟩ ++ numB (t.xs.getD k 0)
def textT (t : Tr) : ByteArray := tx t t.xs.length
def resTx (t : Tr) : ByteArray := if goodT t then textT t else .empty
theorem numB_size (n : Int) (h : -1000000000 ≤ n) (h' : n ≤ 1000000000) : (numB n).size ≤ 11 := by
  by_cases hn : n < 0
  · obtain ⟨u, rfl⟩ : ∃ u : Nat, n = -(u : Int) := ⟨n.natAbs, by omega⟩
    rw [numB_neg u (by omega), ByteArray.size_append]
    have := dec_size u (by omega)
    show 1 + (dec u).size ≤ 11
    omega
  · obtain ⟨u, rfl⟩ : ∃ u : Nat, n = (u : Int) := ⟨n.toNat, by omega⟩
    rw [numB_pos]
    have := dec_size u (by omega)
    omega
theorem one_size (c : UInt8) : (⟨#[c]⟩ : ByteArray).size = 1 := rfl
theorem tx_size (t : Tr) (h : goodT t = true) : ∀ k, k ≤ t.xs.length → (tx t k).size ≤ 24 + 12 * k := by
  obtain ⟨⟨g0, g1, g2, g3, _, _⟩, gx⟩ := goodT_yes h
  intro k
  induction k with
  | zero =>
    intro _
    have h1 := numB_size t.st (by omega) (by omega)
    have h2 := numB_size t.start (by omega) (by omega)
    simp only [tx, ByteArray.size_append, one_size]
    omega
  | succ k ih =>
    intro hk
    obtain ⟨x, hx⟩ := get_of_lt (l := t.xs) (k := k) (by omega)
    have hb := okX_get gx hx
    have h1 := numB_size x (by omega) (by omega)
    have := ih (by omega)
    simp only [tx, ByteArray.size_append, one_size, List.getD, hx, Option.getD_some]
    omega
theorem quiet_draws {P : Program} {f : FuncId} {args : Array Value} {w : World} {n : Nat} {v : Value}
    (h : Calls P f args (w.drewN n) fun e w' => e = .returned v ∧ ∃ m, w' = (w.drewN n).drewN m) : Calls P f args (w.drewN n) fun e w'' => e = .returned v ∧ ∃ m, w'' = w.drewN m :=
  h.mono fun _ _ ⟨he, m, hm⟩ => ⟨he, n + m, by rw [hm, World.drewN_drewN]⟩

set_option maxHeartbeats 1000000 in
theorem specText (t : Tr) (v : Value) (w : World) (B : Nat) (h : TrL w B v t) (hB : B ≤ w.heap.size) (hg : goodT t = true) :
    Calls Tryd.prog 25 #[v] w fun e w' => e = .returned (.string (textT t)) ∧ Below w.heap.size w w' := by
  obtain ⟨vs, rfl, hl⟩ := h
  obtain ⟨ao, cap, rfl, hcap, hmax, -, hc⟩ := hl
  unfold maxLen at hmax
  obtain ⟨⟨g0, g1, g2, g3, g4, _⟩, gx⟩ := goodT_yes hg
  have GX := Lib.hid gx
  have HSZ := Lib.hid (tx_size t hg)
  have s1 := numB_size t.st (by omega) (by omega)
  have s2 := numB_size t.start (by omega) (by omega)
  have hb0 : Below B w (w.alloc (.cells #[.int .i64 t.st, .int .i64 t.start, .slice ao t.xs.length cap] 26)) := (Below.refl B w).alloc hB _
  have b0 := Bx.new w [.int .i64 t.st, .int .i64 t.start, .slice ao t.xs.length cap] 26
  clear gx hg
  go_enter Tryd.func25, Tryd.ntmps25
  go_wp2
  go_quiet ((go_at_call 53; refine quiet_draws (l1Num_any _ ?_ ?_ _) <;> omega))
  go_wp2
  go_loopw [3, 4] (fun s i wr => ∃ k : Nat, k ≤ t.xs.length ∧ i = .int .i64 k ∧ s = .string (tx t k) ∧ Below w.heap.size w wr ∧ Bx wr w.heap.size [.int .i64 t.st, .int .i64 t.start, .slice ao t.xs.length cap]) (fun _ i _ => t.xs.length - (intOf i).toNat)
  case atStart => exact ⟨0, Nat.zero_le _, rfl, rfl, drewN_b ((Below.refl w.heap.size w).alloc (Nat.le_refl _) _) _, b0.drewN _⟩
  case round =>
    obtain ⟨k, hk, rfl, rfl, hbl, bx⟩ := hrel
    have q0 := bx.2 0 _ rfl
    have q1 := bx.2 1 _ rfl
    have q2 := bx.2 2 _ rfl
    have hz := HSZ.out k hk
    by_cases hlt : k < t.xs.length
    · obtain ⟨x, hx⟩ := get_of_lt hlt
      obtain ⟨bx1, bx2⟩ := okX_get GX.out hx
      obtain ⟨b, off, rfl, hb, hcx⟩ := hc k x hx
      have hcx' := cellOf hbl (by omega) hcx
      have hzx := numB_size x (by omega) (by omega)
      have HT := Lib.hid (show tx t (k + 1) = tx t k ++ ⟨#[32]⟩ ++ numB x by simp only [tx, List.getD, hx, Option.getD_some])
      have hk9 : k ≤ 24 := by omega
      clear hx hcx hc
      generalize tx t k = s at *
      go_wp2_with fail
      refine (l1Num_any x (by omega) (by omega) _).mono ?_
      rintro e w2 ⟨rfl, m, rfl⟩
      go_wp2
      go_roundw
      case rel => exact ⟨k + 1, by omega, by go_num, by rw [HT.out], drewN_b hbl _, bx.drewN _⟩
      case measure => simp [intOf]; omega
    · obtain rfl : k = t.xs.length := by omega
      clear hc
      go_wp2
      go_ret
      exact ⟨rfl, hbl⟩

theorem specTx (t : Tr) (v : Value) (w : World) (B : Nat) (h : TrL w B v t) (hB : B ≤ w.heap.size) (hn : t.xs.length ≤ 1048576) :
    Calls Tryd.prog 8 #[v] w fun e w' => e = .returned (.tuple #[.string (resTx t), .bool (goodT t)]) ∧ Below w.heap.size w w' := by
  obtain ⟨ao, cap, rfl⟩ := h.form
  have N0 := (Below.refl w.heap.size w).alloc (Nat.le_refl _) (.cells #[.int .i64 t.st, .int .i64 t.start, .slice ao t.xs.length cap] 26)
  have b0 := Bx.new w [.int .i64 t.st, .int .i64 t.start, .slice ao t.xs.length cap] 26
  have h0 := h.below (N0.mono hB)
  cases hg : goodT t with
  | false =>
    have e2 : resTx t = .empty := by unfold resTx; rw [hg]; rfl
    rw [e2]
    have C := Lib.hid (specGoodB t _ _ B false h0 (Nat.le_trans hB N0.size) hg)
    clear hg e2
    go_enter Tryd.func8, Tryd.ntmps8
    go_wp2_with fail
    refine C.out.mono ?_
    rintro e w1 ⟨rfl, hb1⟩
    go_wp2
    go_ret2
    exact ⟨rfl, N0.trans (hb1.mono N0.size)⟩
  | true =>
    have e2 : resTx t = textT t := by unfold resTx; rw [hg]; rfl
    rw [e2]
    have C := Lib.hid (specGoodB t _ _ B true h0 (Nat.le_trans hB N0.size) hg)
    have HG := Lib.hid hg
    clear hg e2
    go_enter Tryd.func8, Tryd.ntmps8
    go_wp2_with fail
    refine C.out.mono ?_
    rintro e w1 ⟨rfl, hb1⟩
    have b1 := b0.below hb1
    have h1 := h0.below (hb1.mono (Nat.le_trans hB N0.size))
    have B1 := N0.trans (hb1.mono N0.size)
    have q0 := b1.2 0 _ rfl
    have q1 := b1.2 1 _ rfl
    have q2 := b1.2 2 _ rfl
    clear hb1 b0 h0
    go_wp2_with fail
    refine (specText t _ _ B h1 (Nat.le_trans hB B1.size) HG.out).mono ?_
    rintro e w2 ⟨rfl, hb2⟩
    go_wp2
    go_ret2
    exact ⟨rfl, B1.trans (hb2.mono B1.size)⟩

theorem itoaAny (n : Int) (h0 : -1000000000 ≤ n) (h1 : n ≤ 1000000000) (w : World) (hp : Pow10 w) :
    Calls Tryd.prog 20 #[.int .i64 n] w fun e w' => e = .returned (.string (numB n)) ∧ Below w.heap.size w w' := by
  refine (Tryd.strconv_Itoa n (by omega) (by omega) w hp).mono ?_
  rintro e w' ⟨rfl, k, os, rfl⟩
  exact ⟨rfl, below_grew _ _ _⟩

set_option maxHeartbeats 1000000 in
theorem implTx (t : Tr) (v : Value) (w : World) (B : Nat) (hp : Pow10 w) (h : TrL w B v t) (hB : B ≤ w.heap.size) (hn : t.xs.length ≤ 1048576) :
    Calls Tryd.prog 6 #[v] w fun e w' => e = .returned (.tuple #[.string (resTx t), .bool (goodT t)]) ∧ Below w.heap.size w w' := by
  obtain ⟨ao, cap, rfl⟩ := h.form
  have N0 := (Below.refl w.heap.size w).alloc (Nat.le_refl _) (.cells #[.int .i64 t.st, .int .i64 t.start, .slice ao t.xs.length cap] 26)
  have b0 := Bx.new w [.int .i64 t.st, .int .i64 t.start, .slice ao t.xs.length cap] 26
  have h0 := h.below (N0.mono hB)
  have HP := Lib.hid hp
  clear hp
  cases hg : goodT t with
  | false =>
    have e2 : resTx t = .empty := by unfold resTx; rw [hg]; rfl
    rw [e2]
    have C := Lib.hid (implGoodB t _ _ B false h0 (Nat.le_trans hB N0.size) hg)
    clear hg e2
    go_enter Tryd.func6, Tryd.ntmps6
    go_wp2_with fail
    refine C.out.mono ?_
    rintro e w1 ⟨rfl, hb1⟩
    go_wp2
    go_ret2
    exact ⟨rfl, N0.trans (hb1.mono N0.size)⟩
  | true =>
    have e2 : resTx t = textT t := by unfold resTx; rw [hg]; rfl
    rw [e2]
    have C := Lib.hid (implGoodB t _ _ B true h0 (Nat.le_trans hB N0.size) hg)
    obtain ⟨⟨g0, g1, g2, g3, g4, _⟩, gx⟩ := goodT_yes hg
    have GX := Lib.hid gx
    have HSZ := Lib.hid (tx_size t hg)
    have s1 := numB_size t.st (by omega) (by omega)
    have s2 := numB_size t.start (by omega) (by omega)
    clear gx hg e2
    go_enter Tryd.func6, Tryd.ntmps6
    go_wp2_with fail
    refine C.out.mono ?_
    rintro e w1 ⟨rfl, hb1⟩
    have b1 := b0.below hb1
    have h1 := h0.below (hb1.mono (Nat.le_trans hB N0.size))
    have B1 := N0.trans (hb1.mono N0.size)
    have z1 := b1.1.1
    have q0 := b1.2 0 _ rfl
    have q1 := b1.2 1 _ rfl
    have q2 := b1.2 2 _ rfl
    have HP1 := Lib.hid (pow10_below HP.out B1)
    clear hb1 b0 h0
    obtain ⟨vs, hv, hl1⟩ := h1
    simp only [Value.agg.injEq, Array.mk.injEq, List.cons.injEq, and_true, true_and] at hv
    subst hv
    obtain ⟨ao', cap', hv', hcap, hmax, _, hc⟩ := hl1
    simp only [Value.slice.injEq] at hv'
    obtain ⟨rfl, _, rfl⟩ := hv'
    unfold maxLen at hmax
    have HC := Lib.hid hc
    clear hc
    have f1 : ¬ 9223372036854775807 < (numB t.st).size + 1 := by omega
    have f2 : ¬ 9223372036854775807 < (numB t.st).size + 1 + (numB t.start).size := by omega
    have f3 : ¬ 9223372036854775807 < (numB t.st).size + 1 + (numB t.start).size + 1 := by omega
    go_wp2
    go_region_held3 (fun w' => Below w1.heap.size w1 w' ∧ w'.cell? ⟨w.heap.size, 0, none⟩ = some (.int .i64 t.st) ∧ w'.cell? ⟨w.heap.size, 1, none⟩ = some (.int .i64 t.start))
      (first
        | exact ⟨(Below.refl _ _).drew, q0, q1⟩
        | (have q := (Below.refl w1.heap.size w1).drew.trans hb2; exact ⟨q, (b1.below q).2 0 _ rfl, (b1.below q).2 1 _ rfl⟩)
        | (have q := ((Below.refl w1.heap.size w1).drew.trans hb2).trans (hb3.mono hb2.size); exact ⟨q, (b1.below q).2 0 _ rfl, (b1.below q).2 1 _ rfl⟩))
      (first
        | (go_at_call 20; ((with_reducible refine (itoaAny t.st (by omega) (by omega) w1.drew (pow10_below HP1.out (Below.refl _ _).drew)).mono ?_); rintro e w2 ⟨rfl, hb2'⟩; have hb2 : Below w1.heap.size w1.drew w2 := hb2'))
        | (go_at_call 20; ((with_reducible refine (itoaAny t.start (by omega) (by omega) w2 (pow10_below HP1.out ((Below.refl w1.heap.size w1).drew.trans hb2))).mono ?_); rintro e w3 ⟨rfl, hb3⟩)))
    have hb4 := ((Below.refl w1.heap.size w1).drew.trans hb2).trans (hb3.mono hb2.size)
    have b3 := b1.below hb4
    have B3 := B1.trans (hb4.mono B1.size)
    clear hb2 hb2' hb3 f1 f2 f3
    have p2 := b3.2 2 _ rfl
    go_wp2
    go_loopw [4, 22] (fun s i wr => ∃ k : Nat, k ≤ t.xs.length ∧ i = .int .i64 k ∧ s = .string (tx t k) ∧ Below w1.heap.size w1 wr) (fun _ i _ => t.xs.length - (intOf i).toNat)
    case atStart => exact ⟨0, Nat.zero_le _, rfl, rfl, hb4⟩
    case round =>
      obtain ⟨k, hk, rfl, rfl, hbl⟩ := hrel
      have hz := HSZ.out k hk
      by_cases hlt : k < t.xs.length
      · obtain ⟨x, hx⟩ := get_of_lt hlt
        obtain ⟨bx1, bx2⟩ := okX_get GX.out hx
        obtain ⟨b, off, rfl, hb, hcx⟩ := HC.out k x hx
        have hcx' := cellOf hbl (by omega) hcx
        have hzx := numB_size x (by omega) (by omega)
        have HT := Lib.hid (show tx t (k + 1) = tx t k ++ (⟨#[32]⟩ ++ numB x) by simp only [tx, List.getD, hx, Option.getD_some, ByteArray.append_assoc])
        have hk9 : k ≤ 24 := by omega
        have hzs : (({ data := #[32] } : ByteArray) ++ numB x).size ≤ 12 := by rw [ByteArray.size_append, one_size]; omega
        clear hx hcx
        generalize tx t k = s at *
        go_wp2_with fail
        refine (itoaAny x (by omega) (by omega) _ (pow10_below HP1.out hbl)).mono ?_
        rintro e w5 ⟨rfl, hb5⟩
        go_wp2
        go_roundw
        case rel => exact ⟨k + 1, by omega, by go_num, by rw [HT.out], hbl.trans (hb5.mono hbl.size)⟩
        case measure => simp [intOf]; omega
      · obtain rfl : k = t.xs.length := by omega
        go_wp2
        go_ret2
        exact ⟨rfl, B1.trans (hbl.mono B1.size)⟩
end Go.Proofs.YtedngmnjpkhbiaaDoor
