/- Packing: bytes: how many make up a number; both programs. -/
import Derived.Test.YtkgohnlljbamlaaPkN
import Derived.Lib.MinMax
import Derived.Lib.BitFns
import Derived.Lib.Strings
import Derived.Lib.Small
import Derived.Lib.Walk
namespace Go.Proofs.Ytkgohnlljbamlaa
open Go.ChangeShapes Go.WideShapes Go.ChangeAt Go.RowKit Go.ChangeMaps
set_option linter.unusedSimpArgs false
set_option linter.unusedVariables false

set_option maxHeartbeats 4000000 in
set_option maxRecDepth 100000 in
theorem len8 (x : Int) (w : World) (h0 : 0 ≤ x) (h1 : x ≤ 255) : Calls Try.prog 92 #[.int .u8 x] w fun e w' => e = .returned (.int .i64 (Lib.bitLen x.toNat)) ∧ w' = w := by
  have hl := Lib.hid (show wrap64 (Lib.len8 x) = (Lib.bitLen x.toNat : Int) from by unfold wrap64; exact Lib.len8_int x h0 h1)
  go_enter Try.func92, Try.ntmps92
  go_wp2
  go_ret
  exact ⟨ret_int hl.out, rfl⟩
theorem lz8 (x : Int) (w : World) (h0 : 0 ≤ x) (h1 : x ≤ 255) : Calls Try.prog 85 #[.int .u8 x] w fun e w' => e = .returned (.int .i64 (8 - (Lib.bitLen x.toNat : Int))) ∧ w' = w := by
  have l := Lib.bitLen_le8 ⟨x.toNat, by omega⟩
  simp only at l
  have e8 : wrap64 (8 - (Lib.bitLen x.toNat : Int)) = 8 - (Lib.bitLen x.toNat : Int) := by unfold wrap64; omega
  have C := Lib.hid (len8 x w h0 h1)
  generalize Lib.bitLen x.toNat = n at *
  go_enter Try.func85, Try.ntmps85
  go_wp2_with fail
  refine C.out.mono ?_
  rintro e w' ⟨rfl, hw⟩
  obtain rfl := hw.symm
  go_wp2
  go_ret
  exact ⟨ret_int (by omega), rfl⟩
theorem lead_bits : ∀ n : Fin 256, max 1 (min (8 - (Lib.bitLen (255 - n.val) : Int)) 3) = (lead (n.val : Int) : Int) ∧ bits .xor .u8 IntKind.u8.max (n.val : Int) = 255 - (n.val : Int) := by decide +kernel
set_option maxHeartbeats 400000 in
theorem implWf (b : Int) (w : World) (h0 : 0 ≤ b) (h1 : b ≤ 255) : Calls Try.prog 68 #[.int .i64 b] w fun e w' => e = .returned (.int .i64 (lead b)) ∧ w' = w := by
  have L := lead_bits ⟨b.toNat, by omega⟩
  simp only [Int.toNat_of_nonneg h0] at L
  obtain ⟨L1, L2⟩ := L
  have C := lz8 (255 - b) w (by omega) (by omega)
  rw [show (255 - b).toNat = 255 - b.toNat by omega] at C
  have l := Lib.bitLen_le8 ⟨255 - b.toNat, by omega⟩
  simp only at l
  have HC := Lib.hid C
  have HL := Lib.hid L1
  clear C L1
  generalize Lib.bitLen (255 - b.toNat) = n at *
  have hs : IntKind.u8.signed = false := rfl
  go_enter Try.func68, Try.ntmps68
  go_wp2_with fail
  refine HC.out.mono ?_
  rintro e w' ⟨rfl, hw⟩
  obtain rfl := hw.symm
  go_wp2
  go_ret
  exact ⟨ret_int (by rw [← HL.out]), rfl⟩

theorem okB_bad {l : List Int} {k : Nat} {x : Int} (hx : l[k]? = some x) (h : ¬ (0 ≤ x ∧ x ≤ 255)) : okB l = false := by
  unfold okB
  rw [decide_eq_false (fun g => h (g x (List.mem_of_getElem? hx)))]; rfl
def okY (l : List Int) : Bool := decide (∀ b ∈ l, 0 ≤ b ∧ b ≤ 255)
theorem okY_snoc {l : List Int} {k : Nat} {x : Int} (hx : l[k]? = some x) (h : 0 ≤ x ∧ x ≤ 255) (g : okY (l.take k) = true) : okY (l.take (k + 1)) = true := by
  unfold okY at *
  rw [decide_eq_true_eq] at *
  intro y hy
  rw [take_snoc hx] at hy
  rcases List.mem_append.1 hy with hy | hy
  · exact g y hy
  · rw [List.mem_singleton.1 hy]; exact h
set_option maxHeartbeats 400000 in
theorem implAb (l : List Int) (v : Value) (w : World) (B : Nat) (h : Lst (Value.int .i64) w B v l) : Calls Try.prog 67 #[v] w fun e w' => e = .returned (.bool (okB l)) ∧ w' = w := by
  obtain ⟨ao, cap, rfl, hcap, hmax, -, hc⟩ := h
  unfold maxLen at hmax
  by_cases h1 : (l.length : Int) ≤ 100
  case neg =>
    have HG := Lib.hid (show okB l = false by unfold okB; rw [decide_eq_false (show ¬ l.length ≤ 100 by omega), Bool.and_false])
    clear hc
    go_enter Try.func67, Try.ntmps67
    go_wp2
    go_ret
    exact ⟨ret_bool HG.out.symm, rfl⟩
  go_enter Try.func67, Try.ntmps67
  go_wp2
  go_loop [10] (fun i => ∃ k : Nat, k ≤ l.length ∧ i = .int .i64 k ∧ okY (l.take k) = true) (fun i => l.length - (intOf i).toNat)
  case atStart => exact ⟨0, Nat.zero_le _, rfl, by simp [okY]⟩
  case round =>
    obtain ⟨k, hk, rfl, hok⟩ := hrel
    have HO := Lib.hid hok
    clear hok
    by_cases hlt : k < l.length
    · obtain ⟨x, hx⟩ := get_of_lt hlt
      obtain ⟨b, off, rfl, hb, hcell⟩ := hc k x hx
      have HX := Lib.hid hx
      clear hx hc
      by_cases hin : 0 ≤ x ∧ x ≤ 255
      · obtain ⟨i1, i2⟩ := hin
        go_wp2
        go_round
        case rel => exact ⟨k + 1, by omega, by go_num, okY_snoc HX.out ⟨i1, i2⟩ HO.out⟩
        case measure => simp [intOf]; omega
      · have HG := Lib.hid (okB_bad HX.out hin)
        go_wp2
        all_goals first
          | (go_ret; exact ⟨ret_bool HG.out.symm, rfl⟩)
          | go_wall
    · rw [take_all hlt] at HO
      have HG := Lib.hid (show okB l = true by
        have := HO.out
        unfold okY at this
        unfold okB
        rw [this, decide_eq_true (show l.length ≤ 100 by omega)]; rfl)
      clear hc
      go_wp2
      go_ret
      exact ⟨ret_bool HG.out.symm, rfl⟩
theorem implAbB (l : List Int) (v : Value) (w : World) (B : Nat) (r : Bool) (h : Lst (Value.int .i64) w B v l) (hr : okB l = r) : Calls Try.prog 67 #[v] w fun e w' => e = .returned (.bool r) ∧ w' = w := hr ▸ implAb l v w B h
set_option maxHeartbeats 400000 in
theorem specLi (l : List Int) (v : Value) (w : World) (B : Nat) (h : Lst (Value.int .i64) w B v l) : Calls Try.prog 64 #[v] w fun e w' => e = .returned (.bool (okB l)) ∧ w' = w := by
  obtain ⟨ao, cap, rfl, hcap, hmax, -, hc⟩ := h
  unfold maxLen at hmax
  go_enter Try.func64, Try.ntmps64
  go_wp2
  go_loop [3] (fun i => ∃ k : Nat, k ≤ l.length ∧ i = .int .i64 k ∧ okY (l.take k) = true) (fun i => l.length - (intOf i).toNat)
  case atStart => exact ⟨0, Nat.zero_le _, rfl, by simp [okY]⟩
  case round =>
    obtain ⟨k, hk, rfl, hok⟩ := hrel
    have HO := Lib.hid hok
    clear hok
    by_cases hlt : k < l.length
    · obtain ⟨x, hx⟩ := get_of_lt hlt
      obtain ⟨b, off, rfl, hb, hcell⟩ := hc k x hx
      have HX := Lib.hid hx
      clear hx hc
      by_cases hin : 0 ≤ x ∧ x ≤ 255
      · go_wp2_with fail
        refine (inYes x _ _ _ hin).mono ?_
        rintro e w' ⟨rfl, rfl⟩
        go_wp2
        go_round
        case rel => exact ⟨k + 1, by omega, by go_num, okY_snoc HX.out hin HO.out⟩
        case measure => simp [intOf]; omega
      · have HG := Lib.hid (okB_bad HX.out hin)
        go_wp2_with fail
        refine (inNo x _ _ _ hin).mono ?_
        rintro e w' ⟨rfl, rfl⟩
        go_wp2
        go_ret
        exact ⟨ret_bool (by rw [HG.out]), rfl⟩
    · rw [take_all hlt] at HO
      have HG := Lib.hid (show okB l = decide ((l.length : Int) ≤ 100) by
        have := HO.out
        unfold okY at this
        unfold okB
        rw [this, Bool.true_and, decide_eq_decide]; omega)
      clear hc
      go_wp2
      go_ret
      exact ⟨ret_bool (by rw [HG.out]), rfl⟩
theorem specLiB (l : List Int) (v : Value) (w : World) (B : Nat) (r : Bool) (h : Lst (Value.int .i64) w B v l) (hr : okB l = r) : Calls Try.prog 64 #[v] w fun e w' => e = .returned (.bool r) ∧ w' = w := hr ▸ specLi l v w B h

/-- TornAt. -/
def resTor (l : List Int) : Int := if okB l then (tn l : Int) else 0
theorem tn_full {l : List Int} {k : Nat} (h : l.length ≤ k) : tn (l.drop k) = 0 ∧ rd (l.drop k) = [] := by
  rw [List.drop_of_length_le h, tn_nil, rd_nil]
  exact ⟨rfl, rfl⟩
set_option maxRecDepth 100000 in
set_option maxHeartbeats 1000000 in
theorem implTor (l : List Int) (v : Value) (w : World) (B : Nat) (h : Lst (Value.int .i64) w B v l) (hB : B ≤ w.heap.size) (hn : l.length ≤ 1048576) :
    Calls Try.prog 32 #[v] w fun e w' => e = .returned (.tuple #[.int .i64 (resTor l), .bool (okB l)]) ∧ Below w.heap.size w w' := by
  cases hk : okB l with
  | false =>
    have e2 : resTor l = 0 := by unfold resTor; rw [hk]; rfl
    have C := Lib.hid (implAbB l v w B false h hk)
    rw [e2]
    clear e2 hk
    go_enter Try.func32, Try.ntmps32
    go_wp2_with fail
    refine C.out.mono ?_
    rintro e w1 ⟨rfl, hw⟩
    obtain rfl := hw.symm
    go_wp2
    go_ret2
    exact ⟨rfl, Below.refl _ _⟩
  | true =>
    have e2 : resTor l = (tn l : Int) := by unfold resTor; rw [hk]; rfl
    have C := Lib.hid (implAbB l v w B true h hk)
    obtain ⟨gx, gn⟩ := okB_yes hk
    have GX := Lib.hid gx
    rw [e2]
    obtain ⟨ao, cap, rfl, hcap, hmax, -, hc⟩ := h
    have HC := Lib.hid hc
    clear e2 hk gx hc hcap hmax
    go_enter Try.func32, Try.ntmps32
    go_wp2_with fail
    refine C.out.mono ?_
    rintro e w1 ⟨rfl, hw⟩
    obtain rfl := hw.symm
    go_wp2
    go_loop [4] (fun i => ∃ k : Nat, k ≤ l.length ∧ i = .int .i64 k ∧ k + tn (l.drop k) = tn l) (fun i => l.length - (intOf i).toNat)
    case atStart => exact ⟨0, Nat.zero_le _, rfl, by simp⟩
    case round =>
      obtain ⟨k, hk, rfl, hok⟩ := hrel
      have HO := Lib.hid hok
      clear hok
      by_cases hlt : k < l.length
      case neg =>
        have HE := Lib.hid (show k = tn l by have := HO.out; rw [(tn_full (l := l) (k := k) (by omega)).1] at this; omega)
        go_wp2
        go_ret2
        exact ⟨by rw [← HE.out]; rfl, Below.refl _ _⟩
      obtain ⟨x, hx⟩ := get_of_lt hlt
      obtain ⟨bx1, bx2⟩ := GX.out x (List.mem_of_getElem? hx)
      obtain ⟨b, off, rfl, hb, hcell⟩ := HC.out k x hx
      have D := Lib.hid (implWf x w bx1 bx2)
      have hlp := lead_pos x
      have HX := Lib.hid hx
      have hi0 : (0 : Int) ≤ (k : Int) := by omega
      have hi1 : (k : Int) < (l.length : Int) := by omega
      by_cases hfit : k + lead x ≤ l.length
      · have HY := Lib.hid (at_yes hx hfit).1
        have hfi : ¬ (l.length : Int) < (k : Int) + (lead x : Int) := by omega
        clear hx
        generalize lead x = n at *
        go_wp2_with fail
        refine D.out.mono ?_
        rintro e w2 ⟨rfl, hw2⟩
        obtain rfl := hw2.symm
        go_wp2
        go_round
        case rel => exact ⟨k + n, hfit, by go_num, by rw [← HO.out, HY.out]; omega⟩
        case measure => simp [intOf]; omega
      · have HN := Lib.hid (at_no hx hfit).1
        have hfi : (l.length : Int) < (k : Int) + (lead x : Int) := by omega
        have HE := Lib.hid (show k = tn l by have := HO.out; rw [HN.out] at this; omega)
        clear hx
        generalize lead x = n at *
        go_wp2_with fail
        refine D.out.mono ?_
        rintro e w2 ⟨rfl, hw2⟩
        obtain rfl := hw2.symm
        go_wp2
        go_ret2
        exact ⟨by rw [← HE.out]; rfl, Below.refl _ _⟩
end Go.Proofs.Ytkgohnlljbamlaa
