/- Contracts of the laws' helpers on slices of integers; what a store into owned cells leaves. -/
import Derived.Test.YtoogofceoinniaaBase
import Derived.Deep.Draws
import Derived.Lib.SmallJoins
namespace Go.Proofs.Ytoogofceoinniaa
open Go.ChangeShapes Go.WideShapes Go.ChangeAt Go.RowKit Go.ChangeMaps
set_option linter.unusedSimpArgs false
set_option linter.unusedVariables false

/-- The blocks below a bound read on, as rules of the walk. -/
theorem bcell {W w1 : World} (hb : Below W.heap.size W w1) : (∀ b o, b < W.heap.size → w1.cell? ⟨b, o, none⟩ = W.cell? ⟨b, o, none⟩) ∧ (∀ b o, b < W.heap.size → w1.frozen? ⟨b, o, none⟩ = W.frozen? ⟨b, o, none⟩) :=
  ⟨fun b o h => hb.cell (p := ⟨b, o, none⟩) h, fun b o h => hb.frozen (p := ⟨b, o, none⟩) h⟩

def I64 (n : Int) : Prop := -9223372036854775808 ≤ n ∧ n ≤ 9223372036854775807
/-- Nothing has turned but the blocks from L to U - 1 and what is new. -/
structure Upd (L U : Nat) (w w' : World) : Prop where
  os : w'.os = w.os
  tape : w'.tape = w.tape
  output : w'.output = w.output
  size : w.heap.size ≤ w'.heap.size
  block : ∀ k, k < w.heap.size → (k < L ∨ U ≤ k) → w'.heap[k]? = w.heap[k]?
theorem Upd.refl (L U : Nat) (w : World) : Upd L U w w := ⟨rfl, rfl, rfl, Nat.le_refl _, fun _ _ _ => rfl⟩
theorem Upd.below {L U : Nat} {w w' : World} (h : Upd L U w w') : Below L w w' ∨ w.heap.size < L := by
  by_cases hL : L ≤ w.heap.size
  · exact Or.inl ⟨h.os, h.tape, h.output, h.size, fun k hk => h.block k (by omega) (Or.inl hk)⟩
  · exact Or.inr (by omega)
theorem Upd.low {L U B : Nat} {w w' : World} (h : Upd L U w w') (hB : B ≤ L) (hw : B ≤ w.heap.size) : Below B w w' :=
  ⟨h.os, h.tape, h.output, h.size, fun k hk => h.block k (by omega) (Or.inl (by omega))⟩
theorem Upd.setCell {L U : Nat} {a w : World} (h : Upd L U a w) {p : Addr} (h1 : L ≤ p.block) (h2 : p.block < U) (u : Value) : Upd L U a (w.setCell p u) :=
  ⟨h.os, h.tape, h.output, by simpa [World.setCell] using h.size, fun k hk hne => (Below.heap_setCell w p u k (by omega)).trans (h.block k hk hne)⟩
theorem Upd.trans {L U : Nat} {a b c : World} (h : Upd L U a b) (k : Upd L U b c) : Upd L U a c :=
  ⟨k.os.trans h.os, k.tape.trans h.tape, k.output.trans h.output, Nat.le_trans h.size k.size, fun i hi hne => (k.block i (Nat.lt_of_lt_of_le hi h.size) hne).trans (h.block i hi hne)⟩
theorem Upd.of_below {L U : Nat} {a b : World} (h : Below a.heap.size a b) : Upd L U a b := ⟨h.os, h.tape, h.output, h.size, fun i hi _ => h.block i hi⟩
theorem Upd.drewN {L U : Nat} {a w : World} (h : Upd L U a w) (n : Nat) : Upd L U a (w.drewN n) := ⟨h.os, h.tape, h.output, h.size, h.block⟩
theorem Upd.mono {L U L' U' : Nat} {a b : World} (h : Upd L U a b) (h1 : L' ≤ L) (h2 : U ≤ U') : Upd L' U' a b :=
  ⟨h.os, h.tape, h.output, h.size, fun i hi hne => h.block i hi (by omega)⟩
/-- What is owned above stays. -/
theorem Own.high {α : Type} {en : α → Value} {w w' : World} {L B L' U' : Nat} {v : Value} {xs : List α} (h : Own en w L B v xs) (hu : Upd L' U' w w') (hU : U' ≤ L) : Own en w' L B v xs := by
  obtain ⟨ao, cap, h1, h2, h3, hn, h4⟩ := h
  refine ⟨ao, cap, h1, h2, h3, hn, fun i x hi => ?_⟩
  obtain ⟨b, off, e1, e0, e2, e3, e4⟩ := h4 i x hi
  have hb := hu.block b (cell_of_lt e3) (Or.inr (by omega))
  exact ⟨b, off, e1, e0, e2, (World.cell?_of_block hb).trans e3, (World.frozen?_of_block hb).trans e4⟩
theorem Own.mono {α : Type} {en : α → Value} {w : World} {L B L' B' : Nat} {v : Value} {xs : List α} (h : Own en w L B v xs) (h1 : L' ≤ L) (h2 : B ≤ B') : Own en w L' B' v xs := by
  obtain ⟨ao, cap, g1, g2, g3, hn, h4⟩ := h
  refine ⟨ao, cap, g1, g2, g3, hn, fun i x hi => ?_⟩
  obtain ⟨b, off, e1, e0, e2, e3, e4⟩ := h4 i x hi
  exact ⟨b, off, e1, by omega, by omega, e3, e4⟩

theorem Own.setLow {α : Type} {en : α → Value} {w : World} {L B : Nat} {v : Value} {xs : List α} (h : Own en w L B v xs) {p : Addr} (hp : p.block < L) (u : Value) : Own en (w.setCell p u) L B v xs :=
  h.high (L' := p.block) (U' := p.block + 1) ((Upd.refl _ _ w).setCell (Nat.le_refl _) (Nat.lt_succ_self _) u) hp
theorem Own.alloc {α : Type} {en : α → Value} {w : World} {L B : Nat} {v : Value} {xs : List α} (h : Own en w L B v xs) (o : Obj) : Own en (w.alloc o) L B v xs :=
  h.high (L' := 0) (U' := 0) (Upd.of_below ((Below.refl _ w).alloc (Nat.le_refl _) o)) (Nat.zero_le _)

/-- n marks from k on. -/
def imarks (k : Int) (n : Nat) : List Int := (List.range n).map fun (i : Nat) => k + i
theorem imarks_get {k : Int} {n i : Nat} (h : i < n) : (imarks k n)[i]? = some (k + i) := by simp [imarks, h]
theorem imarks_len (k : Int) (n : Nat) : (imarks k n).length = n := by simp [imarks]
theorem eq_imarks {k : Int} {n : Nat} {cs : List Int} (hl : cs.length = n) (h : ∀ i, i < n → cs[i]? = some (k + i)) : cs = imarks k n := by
  apply List.ext_getElem?
  intro i
  by_cases hi : i < n
  · rw [h i hi, imarks_get hi]
  · rw [List.getElem?_eq_none (by omega), List.getElem?_eq_none (by rw [imarks_len]; omega)]

theorem infoInt : (Try.prog.info? 3).map (fun i => (i.zero, i.size, i.bytes)) = some (some (.int .i64 0), 1, 8) := by kernel_rfl

theorem Own.form {α : Type} {en : α → Value} {w : World} {L B : Nat} {v : Value} {xs : List α} (h : Own en w L B v xs) : ∃ ao cap, v = .slice ao xs.length cap := let ⟨ao, cap, h, _⟩ := h; ⟨ao, cap, h⟩
theorem Lst.form {α : Type} {en : α → Value} {w : World} {B : Nat} {v : Value} {xs : List α} (h : Lst en w B v xs) : ∃ ao cap, v = .slice ao xs.length cap := let ⟨ao, cap, h, _⟩ := h; ⟨ao, cap, h⟩
/-- A slice of integers, out of its cells. -/
theorem ints_of {H : Type} {enc : TypeId × Value → H} {P : Program} {w : World} {t e : TypeId} {fuel : Nat} {cs : List Value} {x : DataW H × List MemPlace}
    (ht : P.underlying t = some (.slice e)) (he : P.underlying e = some (.int .i64)) (hc : P.cellsOf e = 1)
    (hf : DataW.trod enc P w 0 (fun _ => true) true fuel t cs = some x) : ∃ zs : List Int, (∃ v, cs = [v] ∧ Lst (Value.int .i64) w w.heap.size v zs) ∧ ∀ z ∈ zs, I64 z := by
  rcases open_ints ht he hc hf with ⟨hcs, _⟩ | ⟨a, len, cap, zs, hcs, _, hl, hm, hz, _, hcell, hwz⟩
  · exact ⟨[], ⟨_, hcs, none, 0, rfl, by simp, by simp [maxLen], fun _ => rfl, fun i x hi => by simp at hi⟩, by simp⟩
  · simp only [if_true] at hz
    refine ⟨zs.take len, ⟨_, hcs, some a, cap, by rw [List.length_take, Nat.min_eq_left (by omega)], by rw [List.length_take]; omega, hm, by simp, fun i x hi => ?_⟩, fun z hs => bounds_i64 (hwz z (List.mem_of_mem_take hs))⟩
    have hi2 : i < (zs.take len).length := (List.getElem?_eq_some_iff.1 hi).1
    rw [List.length_take] at hi2
    have h1 := hcell i (by omega)
    have h2 : zs.getD i 0 = x := by
      rw [List.getElem?_take, if_pos (by omega)] at hi
      simp [List.getD, hi]
    rw [h2] at h1
    obtain ⟨b, off, spot⟩ := a
    have hspot : spot = none := by simpa [Addr.add] using World.cell?_spot (hcell 0 (by omega))
    subst hspot
    rw [Addr.add_lit] at h1
    exact ⟨b, off, rfl, cell_of_lt h1, h1⟩
set_option maxRecDepth 100000 in
/-- An argument that is a slice of integers. -/
theorem open_IntS {H : Type} {enc : TypeId × Value → H} {w : World} {base : Nat} {v : Value} {d : DataW H} {ps : List MemPlace}
    (hval : Value.okWide Try.prog w .any base 93 v) (hd : DataW.Trod enc Try.prog w 0 (fun _ => true) true 93 v d ps) : ∃ xs : List Int, Lst (Value.int .i64) w w.heap.size v xs ∧ ∀ x ∈ xs, I64 x := by
  obtain ⟨a0, len, cap, rfl⟩ := okWide_slice Try.underlying93 hval
  obtain ⟨fuel, hf⟩ := hd
  obtain ⟨zs, ⟨v, hv, hl⟩, hw⟩ := ints_of Try.underlying93 Try.underlying3 (by kernel_rfl) hf
  simp only [Value.cells, List.cons.injEq, and_true] at hv
  subst hv
  exact ⟨zs, hl, hw⟩
end Go.Proofs.Ytoogofceoinniaa
