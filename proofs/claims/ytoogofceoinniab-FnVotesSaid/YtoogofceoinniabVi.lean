/- What a walk of a law keeps; the laws' helpers on lists of integers. -/
import Derived.Test.YtoogofceoinniabCurB
import Derived.Test.YtoogofceoinniabInt
import Derived.OpenShut
namespace Go.Proofs.Ytoogofceoinniab
open Go.ChangeShapes Go.WideShapes Go.ChangeAt Go.RowKit Go.ChangeMaps
set_option linter.unusedSimpArgs false
set_option linter.unusedVariables false

/-- P holds here and in each world that grows out of here. -/
def St (w : World) (P : World → Prop) : Prop := ∀ w', Below w.heap.size w w' → P w'
theorem St.step {w w1 : World} {P : World → Prop} (h : St w P) (hb : Below w.heap.size w w1) : St w1 P := fun w' h' => h w' (hb.trans (h'.mono hb.size))
theorem St.now {w : World} {P : World → Prop} (h : St w P) : P w := h w (Below.refl _ _)
theorem St.lst {α : Type} {en : α → Value} {w : World} {v : Value} {xs : List α} (h : Lst en w w.heap.size v xs) : St w (fun w' => Lst en w' w'.heap.size v xs) := fun w' hb => (h.below hb).mono hb.size
theorem St.own {α : Type} {en : α → Value} {w : World} {L : Nat} {v : Value} {xs : List α} (h : Own en w L w.heap.size v xs) : St w (fun w' => Lst en w' w'.heap.size v xs) := St.lst h.lst
theorem St.code {w : World} {v : Value} (h : CodeArg w w.heap.size v) : St w (fun w' => CodeArg w' w.heap.size v) := fun w' hb => h.below hb
theorem St.chain (w : World) : St w (fun w' => Below w.heap.size w w') := fun w' hb => hb
/-- The same where the code's world is an earlier one. -/
theorem St.draw {W w w1 : World} {v : Value} (h : St w (fun w' => CodeArg w' W.heap.size v)) (hb : Below w.heap.size w w1) : St w1 (fun w' => CodeArg w' W.heap.size v) := h.step hb

/-- A code: a slice of bytes. -/
theorem open_code {H : Type} {enc : TypeId × Value → H} {P : Program} {w : World} {base : Nat} {t e : TypeId} {v : Value} {d : DataW H} {ps : List MemPlace}
    (ht : P.underlying t = some (.slice e)) (he : P.underlying e = some (.int .u8)) (hc : P.cellsOf e = 1) (hval : Value.okWide P w .any base t v)
    (hd : DataW.Trod enc P w 0 (fun _ => true) true t v d ps) : ∃ ao n cap, v = .slice ao n cap ∧ n ≤ maxLen ∧ Code w w.heap.size ao n := by
  obtain ⟨a0, len, cap, rfl⟩ := okWide_slice ht hval
  obtain ⟨fuel, hf⟩ := hd
  rcases open_ints ht he hc hf with ⟨hcs, _⟩ | ⟨a, len', cap', zs, hcs, _, hl, hm, hz, _, hcell, hwz⟩
  · simp [Value.cells] at hcs
    obtain ⟨rfl, rfl, rfl⟩ := hcs
    exact ⟨none, 0, 0, rfl, by simp, fun i hi => absurd hi (by omega)⟩
  · simp [Value.cells] at hcs
    obtain ⟨rfl, rfl, rfl⟩ := hcs
    simp only [if_true] at hz
    refine ⟨some a, len, cap, rfl, by omega, fun i hi => ?_⟩
    have h1 := hcell i (by omega)
    obtain ⟨b, off, spot⟩ := a
    have hspot : spot = none := by simpa [Addr.add] using World.cell?_spot (hcell 0 (by omega))
    subst hspot
    rw [Addr.add_lit] at h1
    have hb := range_u8 hwz i
    rw [List.getD_eq_getElem?_getD] at h1
    exact ⟨b, off, _, rfl, cell_of_lt h1, h1, hb.1, by omega⟩
theorem vBig_yes (n cap : Nat) (ao : Option Addr) (w : World) (h : (65536 : Int) < n) : Calls Try.prog 43 #[.slice ao n cap] w fun e w' => e = .returned (.bool true) ∧ w' = w := by
  go_enter Try.func43, Try.ntmps43
  go_wp2
  go_ret
  exact ⟨rfl, rfl⟩
theorem vBig_no (n cap : Nat) (ao : Option Addr) (w : World) (h : (n : Int) ≤ 65536) : Calls Try.prog 43 #[.slice ao n cap] w fun e w' => e = .returned (.bool false) ∧ w' = w := by
  go_enter Try.func43, Try.ntmps43
  go_wp2
  go_ret
  exact ⟨ret_bool (by simp; omega), rfl⟩
set_option maxHeartbeats 400000 in
theorem vInts_same (ss : List Int) (v v2 : Value) (w : World) (B : Nat) (h : Lst (Value.int .i64) w B v ss) (h2 : Lst (Value.int .i64) w B v2 ss) (hB : B ≤ w.heap.size) :
    Calls Try.prog 49 #[v, v2] w fun e w' => e = .returned (.bool true) ∧ Below w.heap.size w w' := by
  obtain ⟨ao, cap, rfl, hcap, hmax, -, hc⟩ := h
  obtain ⟨ao2, cap2, rfl, hcap2, hmax2, -, hc2⟩ := h2
  unfold maxLen at hmax
  go_enter Try.func49, Try.ntmps49
  go_wp2
  go_loopw [5] (fun i wr => ∃ (k : Nat), k ≤ ss.length ∧ i = .int .i64 k ∧ Below w.heap.size w wr)
    (fun i _ => ss.length - (intOf i).toNat)
  case atStart => exact ⟨0, Nat.zero_le _, rfl, Below.refl _ _⟩
  case round =>
    obtain ⟨k, hk, rfl, hbl⟩ := hrel
    by_cases hlt : k < ss.length
    · obtain ⟨s, hs⟩ := get_of_lt hlt
      obtain ⟨b, off, rfl, hb, hcell⟩ := hc k s hs
      obtain ⟨b2, off2, rfl, hb2, hcell2⟩ := hc2 k s hs
      have hcell' := cellOf hbl (by omega) hcell
      have hcell2' := cellOf hbl (by omega) hcell2
      clear hs hcell hcell2
      have hi0 : (0 : Int) ≤ (k : Int) := by omega
      have hi1 : (k : Int) < (ss.length : Int) := by omega
      go_wp2
      go_quiet (fail)
      go_wp2
      go_roundw
      case rel => exact ⟨k + 1, by omega, by go_num, drewN_b hbl _⟩
      case measure => simp [intOf]; omega
    · go_wp2
      go_ret
      exact ⟨rfl, hbl⟩
end Go.Proofs.Ytoogofceoinniab
