/- Tables of numbers compared by the laws. -/
import Derived.Test.YtklilfbokpljkaaRi
import Derived.Test.YtklilfbokpljkaaIntSS
namespace Go.Proofs.Ytklilfbokpljkaa
open Go.ChangeShapes Go.WideShapes Go.ChangeAt Go.RowKit Go.ChangeMaps Go.Sort
set_option linter.unusedSimpArgs false
set_option linter.unusedVariables false

set_option maxHeartbeats 400000 in
theorem rTable_same (xss : List (List Int)) (v v2 : Value) (w : World) (B : Nat) (h : SSL w B v xss) (h2 : SSL w B v2 xss) (hB : B ≤ w.heap.size) :
    Calls Try.prog 86 #[v, v2] w fun e w' => e = .returned (.bool true) ∧ Below w.heap.size w w' := by
  obtain ⟨us, hl, ⟨ao, cap, rfl, hcap, hmax, -, hc⟩, hi⟩ := h
  obtain ⟨us2, hl2, ⟨ao2, cap2, rfl, hcap2, hmax2, -, hc2⟩, hi2⟩ := h2
  unfold maxLen at hmax
  rw [hl] at hcap ⊢
  rw [hl2] at hcap2 ⊢
  have HC := Lib.hid hc
  have HC2 := Lib.hid hc2
  have HI := Lib.hid hi
  have HI2 := Lib.hid hi2
  have HL := Lib.hid hl
  have HL2 := Lib.hid hl2
  clear hc hc2 hi hi2 hl hl2
  go_enter Try.func86, Try.ntmps86
  go_wp2
  go_loopw [5] (fun i wr => ∃ (k : Nat), k ≤ xss.length ∧ i = .int .i64 k ∧ Below w.heap.size w wr)
    (fun i _ => xss.length - (intOf i).toNat)
  case atStart => exact ⟨0, Nat.zero_le _, rfl, Below.refl _ _⟩
  case round =>
    obtain ⟨k, hk, rfl, hbl⟩ := hrel
    by_cases hlt : k < xss.length
    case neg =>
      obtain rfl : k = xss.length := by omega
      go_wp2
      go_ret
      exact ⟨rfl, hbl⟩
    obtain ⟨u, hu⟩ := get_of_lt (l := us) (k := k) (by rw [HL.out]; exact hlt)
    obtain ⟨u2, hu2⟩ := get_of_lt (l := us2) (k := k) (by rw [HL2.out]; exact hlt)
    obtain ⟨xs, hx⟩ := get_of_lt hlt
    obtain ⟨b, off, rfl, hb, hcell⟩ := HC.out k u hu
    obtain ⟨b2, off2, rfl, hb2, hcell2⟩ := HC2.out k u2 hu2
    have c1 : wr.cell? ⟨b, off + k, none⟩ = some u := cellOf hbl (by omega) hcell
    have c2 : wr.cell? ⟨b2, off2 + k, none⟩ = some u2 := cellOf hbl (by omega) hcell2
    have hsz := hbl.size
    have L1 := (HI.out k u xs hu hx).below (hbl.mono hB)
    have L2 := (HI2.out k u2 xs hu2 hx).below (hbl.mono hB)
    have hB2 : B ≤ wr.heap.size := by omega
    have cc := fun d os => Calls.regrown_of (w := wr) (d := d) (os := os) (rInts_same xs u u2 _ B (L1.below ((below_regrown wr d os).mono hB2)) (L2.below ((below_regrown wr d os).mono hB2)) (Nat.le_trans hB2 (below_regrown wr d os).size))
    have r1 := cell_regrown c1
    have r2 := cell_regrown c2
    have hk0 : (0 : Int) ≤ (k : Int) := by omega
    have hk1 : (k : Int) < (xss.length : Int) := by omega
    clear hu hu2 hx hcell hcell2 L1 L2
    go_wp2
    refine wp_region_quiet_below (by kernel_rfl) (by kernel_rfl) ?_
    repeat (go_big_quiet_step (exact cc _ _))
    refine wpQuiet_nil ?_
    intro _ hw'
    obtain ⟨⟨dq, osq⟩, hw''⟩ := hw'
    subst hw''
    have hb2 := below_regrown (wr) dq osq
    generalize grow (redrawn (wr) dq) osq = w2 at *
    clear cc r1 r2
    go_wp2
    go_roundw
    case rel => exact ⟨k + 1, by omega, by go_num, hbl.trans (hb2.mono hsz)⟩
    case measure => simp [intOf]; omega

end Go.Proofs.Ytklilfbokpljkaa
