/- Contracts of the laws' helpers on slices of integers; what a store into owned cells leaves. -/
import Derived.Test.YtoogofceoinniabBase
import Derived.Deep.Draws
import Derived.Lib.SmallJoins
namespace Go.Proofs.Ytoogofceoinniab
open Go.ChangeShapes Go.WideShapes Go.ChangeAt Go.RowKit Go.ChangeMaps
set_option linter.unusedSimpArgs false
set_option linter.unusedVariables false

/-- The blocks below a bound read on, as rules of the walk. -/
theorem bcell {W w1 : World} (hb : Below W.heap.size W w1) : (∀ b o, b < W.heap.size → w1.cell? ⟨b, o, none⟩ = W.cell? ⟨b, o, none⟩) ∧ (∀ b o, b < W.heap.size → w1.frozen? ⟨b, o, none⟩ = W.frozen? ⟨b, o, none⟩) :=
  ⟨fun b o h => hb.cell (p := ⟨b, o, none⟩) h, fun b o h => hb.frozen (p := ⟨b, o, none⟩) h⟩

def I64 (n : Int) : Prop := -9223372036854775808 ≤ n ∧ n ≤ 9223372036854775807
/-- Nothing has turned but the blocks from L to U - 1 and what is new. -/
structure Upd (L U : Nat) (w w' : World) : Prop where
  os : w'.os = w.os
  tape : w'.tape = w.tape
  output : w'.output = w.output
  size : w.heap.size ≤ w'.heap.size
  block : ∀ k, k < w.heap.size → (k < L ∨ U ≤ k) → w'.heap[k]? = w.heap[k]?
theorem Upd.refl (L U : Nat) (w : World) : Upd L U w w := ⟨rfl, rfl, rfl, Nat.le_refl _, fun _ _ _ => rfl⟩
theorem Upd.below {L U : Nat} {w w' : World} (h : Upd L U w w') : Below L w w' ∨ w.heap.size < L := by
  by_cases hL : L ≤ w.heap.size
  · exact Or.inl ⟨h.os, h.tape, h.output, h.size, fun k hk => h.block k (by omega) (Or.inl hk)⟩
  · exact Or.inr (by omega)
theorem Upd.low {L U B : Nat} {w w' : World} (h : Upd L U w w') (hB : B ≤ L) (hw : B ≤ w.heap.size) : Below B w w' :=
  ⟨h.os, h.tape, h.output, h.size, fun k hk => h.block k (by omega) (Or.inl (by omega))⟩
theorem Upd.setCell {L U : Nat} {a w : World} (h : Upd L U a w) {p : Addr} (h1 : L ≤ p.block) (h2 : p.block < U) (u : Value) : Upd L U a (w.setCell p u) :=
  ⟨h.os, h.tape, h.output, by simpa [World.setCell] using h.size, fun k hk hne => (Below.heap_setCell w p u k (by omega)).trans (h.block k hk hne)⟩
theorem Upd.trans {L U : Nat} {a b c : World} (h : Upd L U a b) (k : Upd L U b c) : Upd L U a c :=
  ⟨k.os.trans h.os, k.tape.trans h.tape, k.output.trans h.output, Nat.le_trans h.size k.size, fun i hi hne => (k.block i (Nat.lt_of_lt_of_le hi h.size) hne).trans (h.block i hi hne)⟩
theorem Upd.of_below {L U : Nat} {a b : World} (h : Below a.heap.size a b) : Upd L U a b := ⟨h.os, h.tape, h.output, h.size, fun i hi _ => h.block i hi⟩
theorem Upd.drewN {L U : Nat} {a w : World} (h : Upd L U a w) (n : Nat) : Upd L U a (w.drewN n) := ⟨h.os, h.tape, h.output, h.size, h.block⟩
theorem Upd.mono {L U L' U' : Nat} {a b : World} (h : Upd L U a b) (h1 : L' ≤ L) (h2 : U ≤ U') : Upd L' U' a b :=
  ⟨h.os, h.tape, h.output, h.size, fun i hi hne => h.block i hi (by omega)⟩
/-- What is owned above stays. -/
theorem Own.high {α : Type} {en : α → Value} {w w' : World} {L B L' U' : Nat} {v : Value} {xs : List α} (h : Own en w L B v xs) (hu : Upd L' U' w w') (hU : U' ≤ L) : Own en w' L B v xs := by
  obtain ⟨ao, cap, h1, h2, h3, hn, h4⟩ := h
  refine ⟨ao, cap, h1, h2, h3, hn, fun i x hi => ?_⟩
  obtain ⟨b, off, e1, e0, e2, e3, e4⟩ := h4 i x hi
  have hb := hu.block b (cell_of_lt e3) (Or.inr (by omega))
  exact ⟨b, off, e1, e0, e2, (World.cell?_of_block hb).trans e3, (World.frozen?_of_block hb).trans e4⟩
theorem Own.mono {α : Type} {en : α → Value} {w : World} {L B L' B' : Nat} {v : Value} {xs : List α} (h : Own en w L B v xs) (h1 : L' ≤ L) (h2 : B ≤ B') : Own en w L' B' v xs := by
  obtain ⟨ao, cap, g1, g2, g3, hn, h4⟩ := h
  refine ⟨ao, cap, g1, g2, g3, hn, fun i x hi => ?_⟩
  obtain ⟨b, off, e1, e0, e2, e3, e4⟩ := h4 i x hi
  exact ⟨b, off, e1, by omega, by omega, e3, e4⟩

theorem Own.setLow {α : Type} {en : α → Value} {w : World} {L B : Nat} {v : Value} {xs : List α} (h : Own en w L B v xs) {p : Addr} (hp : p.block < L) (u : Value) : Own en (w.setCell p u) L B v xs :=
  h.high (L' := p.block) (U' := p.block + 1) ((Upd.refl _ _ w).setCell (Nat.le_refl _) (Nat.lt_succ_self _) u) hp
theorem Own.alloc {α : Type} {en : α → Value} {w : World} {L B : Nat} {v : Value} {xs : List α} (h : Own en w L B v xs) (o : Obj) : Own en (w.alloc o) L B v xs :=
  h.high (L' := 0) (U' := 0) (Upd.of_below ((Below.refl _ w).alloc (Nat.le_refl _) o)) (Nat.zero_le _)

/-- n marks from k on. -/
def imarks (k : Int) (n : Nat) : List Int := (List.range n).map fun (i : Nat) => k + i
theorem imarks_get {k : Int} {n i : Nat} (h : i < n) : (imarks k n)[i]? = some (k + i) := by simp [imarks, h]
theorem imarks_len (k : Int) (n : Nat) : (imarks k n).length = n := by simp [imarks]
theorem eq_imarks {k : Int} {n : Nat} {cs : List Int} (hl : cs.length = n) (h : ∀ i, i < n → cs[i]? = some (k + i)) : cs = imarks k n := by
  apply List.ext_getElem?
  intro i
  by_cases hi : i < n
  · rw [h i hi, imarks_get hi]
  · rw [List.getElem?_eq_none (by omega), List.getElem?_eq_none (by rw [imarks_len]; omega)]

theorem infoInt : (Try.prog.info? 3).map (fun i => (i.zero, i.size, i.bytes)) = some (some (.int .i64 0), 1, 8) := by kernel_rfl

theorem eqIntS_len (ss ts : List Int) (v v2 : Value) (w : World) (B : Nat) (h : Lst (Value.int .i64) w B v ss) (h2 : Lst (Value.int .i64) w B v2 ts) (hne : ss.length ≠ ts.length) :
    Calls Try.prog 24 #[v, v2] w fun e w' => e = .returned (.bool false) ∧ Below w.heap.size w w' := by
  obtain ⟨ao, cap, rfl, hcap, hmax, -, hc⟩ := h
  obtain ⟨ao2, cap2, rfl, hcap2, hmax2, -, hc2⟩ := h2
  have h1 : ((ss.length : Int) == (ts.length : Int)) = false := by simp; omega
  have h3 : ((ss.length : Int) != (ts.length : Int)) = true := by simp; omega
  go_enter Try.func24, Try.ntmps24
  go_wp2
  go_ret
  exact ⟨rfl, Below.refl _ _⟩

theorem eqIntS_any (ss ts : List Int) (v v2 : Value) (w : World) (B : Nat) (h : Lst (Value.int .i64) w B v ss) (h2 : Lst (Value.int .i64) w B v2 ts) (hB : B ≤ w.heap.size) (hl : ts.length = ss.length) :
    Calls Try.prog 24 #[v, v2] w fun e w' => e = .returned (.bool (decide (ss = ts))) ∧ Below w.heap.size w w' := by
  obtain ⟨ao, cap, rfl, hcap, hmax, -, hc⟩ := h
  obtain ⟨ao2, cap2, rfl, hcap2, hmax2, -, hc2⟩ := h2
  unfold maxLen at hmax
  rw [hl]
  rw [hl] at hcap2
  have HL := Lib.hid hl
  clear hl
  go_enter Try.func24, Try.ntmps24
  go_wp2
  go_loopw [5] (fun i wr => ∃ (k : Nat), k ≤ ss.length ∧ i = .int .i64 k ∧ ss.take k = ts.take k ∧ Below w.heap.size w wr)
    (fun i _ => ss.length - (intOf i).toNat)
  case atStart => exact ⟨0, Nat.zero_le _, rfl, rfl, Below.refl _ _⟩
  case round =>
    obtain ⟨k, hk, rfl, ht, hbl⟩ := hrel
    by_cases hlt : k < ss.length
    · obtain ⟨s, hs⟩ := get_of_lt hlt
      obtain ⟨t, ht1⟩ := get_of_lt (l := ts) (k := k) (by rw [HL.out]; exact hlt)
      obtain ⟨b, off, rfl, hb, hcell⟩ := hc k s hs
      obtain ⟨b2, off2, rfl, hb2, hcell2⟩ := hc2 k t ht1
      have hcell' := cellOf hbl (by omega) hcell
      have hcell2' := cellOf hbl (by omega) hcell2
      have HS := Lib.hid hs
      have HT := Lib.hid ht1
      have HK := Lib.hid ht
      clear hs ht1 hcell hcell2 ht
      have hi0 : (0 : Int) ≤ (k : Int) := by omega
      have hi1 : (k : Int) < (ss.length : Int) := by omega
      go_wp2
      by_cases hst : s = t
      · subst hst
        go_quiet (fail)
        go_wp2
        go_roundw
        case rel =>
          refine ⟨k + 1, by omega, by go_num, ?_, drewN_b hbl _⟩
          rw [take_snoc HS.out, take_snoc HT.out, HK.out]
        case measure => simp [intOf]; omega
      · have hst1 : (s == t) = false := by simpa using hst
        have hst2 : (s != t) = true := by simpa using hst
        go_quiet (fail)
        go_wp2
        go_ret
        refine ⟨ret_bool ?_, drewN_b hbl _⟩
        symm
        rw [decide_eq_false_iff_not]
        intro e
        rw [← e, HS.out] at HT
        exact hst (Option.some.inj HT.out)
    · go_wp2
      go_ret
      refine ⟨ret_bool ?_, hbl⟩
      rw [take_all hlt, take_all (by rw [HL.out]; exact hlt)] at ht
      simp [ht]

theorem markIntS_any (ss : List Int) (v : Value) (k : Int) (w : World) (L B : Nat) (h : Own (Value.int .i64) w L B v ss) (hn : ss.length ≤ 1048576) (h0 : 0 ≤ k) (h1 : k ≤ 100000000000) :
    Calls Try.prog 26 #[v, .int .i64 k] w fun e w' => e = .returned (.int .i64 (k + ss.length)) ∧ Own (Value.int .i64) w' L B v (imarks k ss.length) ∧ Upd L B w w' := by
  obtain ⟨ao, cap, rfl, hcap, hmax, -, hc⟩ := id h
  go_enter Try.func26, Try.ntmps26
  go_wp2
  go_loopw [1, 5] (fun m i wr => ∃ (j : Nat) (cs : List Int), j ≤ ss.length ∧ i = .int .i64 j ∧ m = .int .i64 (k + j) ∧ cs.length = ss.length ∧ (∀ i, i < j → cs[i]? = some (k + i)) ∧ Own (Value.int .i64) wr L B (.slice ao ss.length cap) cs ∧ Upd L B w wr)
    (fun _ i _ => ss.length - (intOf i).toNat)
  case atStart => exact ⟨0, ss, Nat.zero_le _, rfl, by simp, rfl, fun i hi => by omega, h, Upd.refl _ _ _⟩
  case round =>
    obtain ⟨j, cs, hj, rfl, rfl, hl, hm, hown, hbl⟩ := hrel
    by_cases hlt : j < ss.length
    · obtain ⟨s, hs⟩ := get_of_lt (l := cs) (k := j) (by omega)
      obtain ⟨ao', cap', hv', _, _, _, hc'⟩ := id hown
      have hl' := Lib.hid hl
      simp only [Value.slice.injEq] at hv'
      obtain ⟨rfl, -, rfl⟩ := hv'
      obtain ⟨b, off, rfl, hLb, hb, hcell, hfr⟩ := hc' j s hs
      have HM := Lib.hid hm
      have HH := Lib.hid hs
      clear hl hs hc hc' hm h
      have hj1 : (j : Int) < 1048576 := by omega
      go_wp2
      go_roundw
      case rel =>
        refine ⟨j + 1, cs.set j (k + j), by omega, by go_num, by go_num, by simp [hl'.out], ?_, hown.set rfl (by rw [hl'.out]; omega), hbl.setCell (p := ⟨b, off + j, none⟩) hLb hb _⟩
        intro i hi
        by_cases hij : j = i
        · subst hij; rw [List.getElem?_set_self (by rw [hl'.out]; omega)]
        · rw [List.getElem?_set_ne hij]; exact HM.out i (by omega)
      case measure => simp [intOf]; omega
    · obtain rfl : j = ss.length := by omega
      have hcm := eq_imarks hl hm
      have HC := Lib.hid hcm
      clear hcm hl hm
      go_wp2
      go_ret
      refine ⟨rfl, ?_, hbl⟩
      rw [← HC.out]; exact hown

theorem heldIntS_any (n : Nat) (v : Value) (k : Int) (w : World) (B : Nat) (h : Lst (Value.int .i64) w B v (imarks k n)) (hn : n ≤ 1048576) (h0 : 0 ≤ k) (h1 : k ≤ 100000000000) :
    Calls Try.prog 27 #[v, .int .i64 k] w fun e w' => e = .returned (.int .i64 (k + n)) ∧ w = w' := by
  obtain ⟨ao, cap, rfl, hcap, hmax, -, hc⟩ := h
  rw [imarks_len] at hcap ⊢
  unfold maxLen at hmax
  go_enter Try.func27, Try.ntmps27
  go_wp2
  go_loop [1, 5] (fun m i => ∃ (j : Nat), j ≤ n ∧ i = .int .i64 j ∧ m = .int .i64 (k + j))
    (fun _ i => n - (intOf i).toNat)
  case atStart => exact ⟨0, Nat.zero_le _, rfl, by simp⟩
  case round =>
    obtain ⟨j, hj, rfl, rfl⟩ := hrel
    by_cases hlt : j < n
    · obtain ⟨b, off, rfl, hb, hcell⟩ := hc j _ (imarks_get hlt)
      clear hc
      go_wp2
      go_round
      case rel => exact ⟨j + 1, by omega, by go_num, by go_num⟩
      case measure => simp [intOf]; omega
    · obtain rfl : j = n := by omega
      go_wp2
      go_ret
      exact ⟨rfl, rfl⟩
theorem eq_IntS (xs : List Int) (v v2 : Value) (w : World) (B : Nat) (h : Lst (Value.int .i64) w B v xs) (h2 : Lst (Value.int .i64) w B v2 xs) (hB : B ≤ w.heap.size) :
    Calls Try.prog 24 #[v, v2] w fun e w' => e = .returned (.bool true) ∧ Below w.heap.size w w' :=
  (eqIntS_any xs xs v v2 w B h h2 hB rfl).mono fun e w' ⟨h, hb⟩ => ⟨by rw [h, decide_eq_true rfl], hb⟩
theorem mark_IntS (xs : List Int) (v : Value) (k : Int) (w : World) (L B : Nat) (h : Own (Value.int .i64) w L B v xs) (_ : B ≤ w.heap.size) (hn : xs.length ≤ 1048576) (h0 : 0 ≤ k) (h1 : k ≤ 100000000000) :
    Calls Try.prog 26 #[v, .int .i64 k] w fun e w' => e = .returned (.int .i64 (k + xs.length)) ∧ Own (Value.int .i64) w' L B v (imarks k xs.length) ∧ Upd L B w w' := markIntS_any xs v k w L B h hn h0 h1
theorem held_IntS (xs : List Int) (v : Value) (k : Int) (w : World) (B : Nat) (h : Lst (Value.int .i64) w B v (imarks k xs.length)) (_ : B ≤ w.heap.size) (hn : xs.length ≤ 1048576) (h0 : 0 ≤ k) (h1 : k ≤ 100000000000) :
    Calls Try.prog 27 #[v, .int .i64 k] w fun e w' => e = .returned (.int .i64 (k + xs.length)) ∧ Below w.heap.size w w' :=
  (heldIntS_any xs.length v k w B h hn h0 h1).mono fun e w' ⟨h, hw⟩ => ⟨h, hw ▸ Below.refl _ _⟩
theorem Own.form {α : Type} {en : α → Value} {w : World} {L B : Nat} {v : Value} {xs : List α} (h : Own en w L B v xs) : ∃ ao cap, v = .slice ao xs.length cap := let ⟨ao, cap, h, _⟩ := h; ⟨ao, cap, h⟩
theorem Lst.form {α : Type} {en : α → Value} {w : World} {B : Nat} {v : Value} {xs : List α} (h : Lst en w B v xs) : ∃ ao cap, v = .slice ao xs.length cap := let ⟨ao, cap, h, _⟩ := h; ⟨ao, cap, h⟩
/-- A slice of integers, out of its cells. -/
theorem ints_of {H : Type} {enc : TypeId × Value → H} {P : Program} {w : World} {t e : TypeId} {fuel : Nat} {cs : List Value} {x : DataW H × List MemPlace}
    (ht : P.underlying t = some (.slice e)) (he : P.underlying e = some (.int .i64)) (hc : P.cellsOf e = 1)
    (hf : DataW.trod enc P w 0 (fun _ => true) true fuel t cs = some x) : ∃ zs : List Int, (∃ v, cs = [v] ∧ Lst (Value.int .i64) w w.heap.size v zs) ∧ ∀ z ∈ zs, I64 z := by
  rcases open_ints ht he hc hf with ⟨hcs, _⟩ | ⟨a, len, cap, zs, hcs, _, hl, hm, hz, _, hcell, hwz⟩
  · exact ⟨[], ⟨_, hcs, none, 0, rfl, by simp, by simp [maxLen], fun _ => rfl, fun i x hi => by simp at hi⟩, by simp⟩
  · simp only [if_true] at hz
    refine ⟨zs.take len, ⟨_, hcs, some a, cap, by rw [List.length_take, Nat.min_eq_left (by omega)], by rw [List.length_take]; omega, hm, by simp, fun i x hi => ?_⟩, fun z hs => bounds_i64 (hwz z (List.mem_of_mem_take hs))⟩
    have hi2 : i < (zs.take len).length := (List.getElem?_eq_some_iff.1 hi).1
    rw [List.length_take] at hi2
    have h1 := hcell i (by omega)
    have h2 : zs.getD i 0 = x := by
      rw [List.getElem?_take, if_pos (by omega)] at hi
      simp [List.getD, hi]
    rw [h2] at h1
    obtain ⟨b, off, spot⟩ := a
    have hspot : spot = none := by simpa [Addr.add] using World.cell?_spot (hcell 0 (by omega))
    subst hspot
    rw [Addr.add_lit] at h1
    exact ⟨b, off, rfl, cell_of_lt h1, h1⟩
set_option maxRecDepth 100000 in
/-- An argument that is a slice of integers. -/
theorem open_IntS {H : Type} {enc : TypeId × Value → H} {w : World} {base : Nat} {v : Value} {d : DataW H} {ps : List MemPlace}
    (hval : Value.okWide Try.prog w .any base 41 v) (hd : DataW.Trod enc Try.prog w 0 (fun _ => true) true 41 v d ps) : ∃ xs : List Int, Lst (Value.int .i64) w w.heap.size v xs ∧ ∀ x ∈ xs, I64 x := by
  obtain ⟨a0, len, cap, rfl⟩ := okWide_slice Try.underlying41 hval
  obtain ⟨fuel, hf⟩ := hd
  obtain ⟨zs, ⟨v, hv, hl⟩, hw⟩ := ints_of Try.underlying41 Try.underlying3 (by kernel_rfl) hf
  simp only [Value.cells, List.cons.injEq, and_true] at hv
  subst hv
  exact ⟨zs, hl, hw⟩
end Go.Proofs.Ytoogofceoinniab
