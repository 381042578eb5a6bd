/- Packing: numbers and samples read from bytes, both programs; TornAt and ReadableSamples. -/
import Derived.Test.YtkgohnlljbamlaaPkB
import Derived.Laws.AppendOwnNone
namespace Go.Proofs.Ytkgohnlljbamlaa
open Go.ChangeShapes Go.WideShapes Go.ChangeAt Go.RowKit Go.ChangeMaps
set_option linter.unusedSimpArgs false
set_option linter.unusedVariables false

theorem drop_one {l : List Int} {k : Nat} {b : Int} (h : l[k]? = some b) : l.drop k = b :: l.drop (k + 1) := by
  rw [List.drop_eq_getElem_cons (List.getElem?_eq_some_iff.1 h).1]
  congr 1
  exact (List.getElem?_eq_some_iff.1 h).2
theorem tak1 {l : List Int} {k : Nat} {b : Int} (h : l[k]? = some b) : (l.drop k).take 1 = [b] := by rw [drop_one h]; rfl
theorem tak2 {l : List Int} {k : Nat} {b c : Int} (h : l[k]? = some b) (h1 : l[k + 1]? = some c) : (l.drop k).take 2 = [b, c] := by rw [drop_one h, drop_one h1]; rfl
theorem tak3 {l : List Int} {k : Nat} {b c d : Int} (h : l[k]? = some b) (h1 : l[k + 1]? = some c) (h2 : l[k + 2]? = some d) : (l.drop k).take 3 = [b, c, d] := by rw [drop_one h, drop_one h1, drop_one h2]; rfl
theorem lead1 {b : Int} (h : b < 192) : lead b = 1 := if_pos h
theorem lead2 {b : Int} (h : ¬ b < 192) (h2 : b < 224) : lead b = 2 := (if_neg h).trans (if_pos h2)
theorem lead3 {b : Int} (h : ¬ b < 192) (h2 : ¬ b < 224) : lead b = 3 := (if_neg h).trans (if_neg h2)
/-- The number at place k, and the place behind it. -/
def nxN (l : List Int) (k : Nat) (b : Int) : Int := if k + lead b ≤ l.length then num ((l.drop k).take (lead b)) else 0
def nxK (l : List Int) (k : Nat) (b : Int) : Int := if k + lead b ≤ l.length then (k : Int) + (lead b : Int) else -1
theorem ret2j {a b a' b' : Int} (h1 : a = a') (h2 : b = b') : Ending.returned (.tuple #[.int .i64 a, .int .i64 b]) = .returned (.tuple #[.int .i64 a', .int .i64 b']) := by rw [h1, h2]
set_option maxRecDepth 100000 in
set_option maxHeartbeats 1000000 in
theorem specNx (l : List Int) (v : Value) (k : Nat) (b : Int) (w : World) (B : Nat) (h : Lst (Value.int .i64) w B v l) (hk : l[k]? = some b) (hx : ∀ x ∈ l, 0 ≤ x ∧ x ≤ 255) (hn : l.length ≤ 100) :
    Calls Try.prog 83 #[v, .int .i64 k] w fun e w' => e = .returned (.tuple #[.int .i64 (nxN l k b), .int .i64 (nxK l k b)]) ∧ ∃ m, w' = w.drewN m := by
  obtain ⟨ao, cap, rfl, hcap, hmax, -, hc⟩ := h
  unfold maxLen at hmax
  have hlt := (List.getElem?_eq_some_iff.1 hk).1
  obtain ⟨bx1, bx2⟩ := hx b (List.mem_of_getElem? hk)
  obtain ⟨g, off, rfl, hb, hcell⟩ := hc k b hk
  have hi0 : (0 : Int) ≤ (k : Int) := by omega
  have hi1 : (k : Int) < (l.length : Int) := by omega
  by_cases h1 : b < 192
  · have hl := lead1 h1
    have HN := Lib.hid (show nxN l k b = b by unfold nxN; rw [hl, if_pos (by omega), tak1 hk]; rfl)
    have HK := Lib.hid (show nxK l k b = (k : Int) + 1 by unfold nxK; rw [hl, if_pos (by omega)]; rfl)
    clear hc hk hl hx
    go_enter Try.func83, Try.ntmps83
    go_wp2
    go_ret2
    exact ⟨ret2j (by rw [HN.out]) (by rw [HK.out]), 0, by simp [World.drewN]⟩
  by_cases h2 : b < 224
  · have h2' : ¬ (224 : Int) ≤ b := by omega
    have hl := lead2 h1 h2
    by_cases hf : k + 1 < l.length
    · obtain ⟨c, hc1⟩ := get_of_lt hf
      obtain ⟨cx1, cx2⟩ := hx c (List.mem_of_getElem? hc1)
      obtain ⟨g', off', e9, hb', hcell1⟩ := hc (k + 1) c hc1
      cases e9
      have HN := Lib.hid (show nxN l k b = 192 + (b - 192) * 256 + c by unfold nxN; rw [hl, if_pos (by omega), tak2 hk hc1]; rfl)
      have HK := Lib.hid (show nxK l k b = (k : Int) + 2 by unfold nxK; rw [hl, if_pos (by omega)]; rfl)
      have hj0 : (0 : Int) ≤ (k : Int) + 1 := by omega
      have hj1 : (k : Int) + 1 < (l.length : Int) := by omega
      have s1 : ((k : Int) + 1).toNat = k + 1 := by omega
      clear hc hk hl hx hc1
      go_enter Try.func83, Try.ntmps83
      go_wp2
      go_ret2
      exact ⟨ret2j (by rw [HN.out]) (by rw [HK.out]), 0, by simp [World.drewN]⟩
    · have HN := Lib.hid (show nxN l k b = 0 by unfold nxN; rw [hl, if_neg (by omega)])
      have HK := Lib.hid (show nxK l k b = -1 by unfold nxK; rw [hl, if_neg (by omega)])
      have hj1 : ¬ (k : Int) + 1 < (l.length : Int) := by omega
      clear hc hk hl hx
      go_enter Try.func83, Try.ntmps83
      go_wp2
      go_ret2
      exact ⟨ret2j (by rw [HN.out]) (by rw [HK.out]), 0, by simp [World.drewN]⟩
  · have h2' : (224 : Int) ≤ b := by omega
    have hl := lead3 h1 h2
    by_cases hf : k + 2 < l.length
    · obtain ⟨c, hc1⟩ := get_of_lt (l := l) (k := k + 1) (by omega)
      obtain ⟨d, hc2⟩ := get_of_lt hf
      obtain ⟨cx1, cx2⟩ := hx c (List.mem_of_getElem? hc1)
      obtain ⟨dx1, dx2⟩ := hx d (List.mem_of_getElem? hc2)
      obtain ⟨g', off', e9, hb', hcell1⟩ := hc (k + 1) c hc1
      cases e9
      obtain ⟨g', off', e9, hb', hcell2⟩ := hc (k + 2) d hc2
      cases e9
      have HN := Lib.hid (show nxN l k b = 8384 + (b - 224) * 65536 + c * 256 + d by unfold nxN; rw [hl, if_pos (by omega), tak3 hk hc1 hc2]; rfl)
      have HK := Lib.hid (show nxK l k b = (k : Int) + 3 by unfold nxK; rw [hl, if_pos (by omega)]; rfl)
      have hj0 : (0 : Int) ≤ (k : Int) + 1 := by omega
      have hj1 : (k : Int) + 1 < (l.length : Int) := by omega
      have hj2 : (0 : Int) ≤ (k : Int) + 2 := by omega
      have hj3 : (k : Int) + 2 < (l.length : Int) := by omega
      have s1 : ((k : Int) + 1).toNat = k + 1 := by omega
      have s2 : ((k : Int) + 2).toNat = k + 2 := by omega
      have s3 : IntKind.i64.wrap ((k : Int) + 1) = (k : Int) + 1 := IntWalk.i64_in _ (by omega)
      have s4 : IntKind.i64.wrap ((k : Int) + 2) = (k : Int) + 2 := IntWalk.i64_in _ (by omega)
      have s5 : IntKind.i64.wrap (b - 224) = b - 224 := IntWalk.i64_in _ (by omega)
      have s6 : IntKind.i64.wrap ((b - 224) * 65536) = (b - 224) * 65536 := IntWalk.i64_in _ (by omega)
      have s7 : IntKind.i64.wrap (8384 + (b - 224) * 65536) = 8384 + (b - 224) * 65536 := IntWalk.i64_in _ (by omega)
      have s8 : IntKind.i64.wrap (c * 256) = c * 256 := IntWalk.i64_in _ (by omega)
      have s9 : IntKind.i64.wrap (8384 + (b - 224) * 65536 + c * 256) = 8384 + (b - 224) * 65536 + c * 256 := IntWalk.i64_in _ (by omega)
      have s10 : IntKind.i64.wrap (8384 + (b - 224) * 65536 + c * 256 + d) = 8384 + (b - 224) * 65536 + c * 256 + d := IntWalk.i64_in _ (by omega)
      have s11 : IntKind.i64.wrap ((k : Int) + 3) = (k : Int) + 3 := IntWalk.i64_in _ (by omega)
      clear hc hk hl hx hc1 hc2
      go_enter Try.func83, Try.ntmps83
      go_wp2
      go_quiet (fail)
      go_wp2
      go_ret2
      exact ⟨ret2j (by rw [HN.out]) (by rw [HK.out]), _, rfl⟩
    · have HN := Lib.hid (show nxN l k b = 0 by unfold nxN; rw [hl, if_neg (by omega)])
      have HK := Lib.hid (show nxK l k b = -1 by unfold nxK; rw [hl, if_neg (by omega)])
      have hj1 : ¬ (k : Int) + 2 < (l.length : Int) := by omega
      clear hc hk hl hx
      go_enter Try.func83, Try.ntmps83
      go_wp2
      go_ret2
      exact ⟨ret2j (by rw [HN.out]) (by rw [HK.out]), 0, by simp [World.drewN]⟩
set_option maxRecDepth 100000 in
set_option maxHeartbeats 1000000 in
theorem implFf (l : List Int) (v : Value) (w : World) (B : Nat) (h : Lst (Value.int .i64) w B v l) (hx : ∀ x ∈ l, 0 ≤ x ∧ x ≤ 255) (hl : l.length = 1 ∨ l.length = 2 ∨ l.length = 3) :
    Calls Try.prog 70 #[v] w fun e w' => e = .returned (.int .i64 (num l)) ∧ ∃ m, w' = w.drewN m := by
  obtain ⟨ao, cap, rfl, hcap, hmax, -, hc⟩ := h
  unfold maxLen at hmax
  match l, hl with
  | [b], _ =>
    obtain ⟨g, off, rfl, hb, hcell⟩ := hc 0 b rfl
    rw [Nat.add_zero] at hcell
    have HN := Lib.hid (show num [b] = b from rfl)
    simp only [List.length_cons, List.length_nil, Nat.zero_add] at *
    clear hc hx
    go_enter Try.func70, Try.ntmps70
    go_wp2
    go_ret
    exact ⟨ret_int (by rw [HN.out]), 0, by simp [World.drewN]⟩
  | [b, c], _ =>
    obtain ⟨g, off, rfl, hb, hcell⟩ := hc 0 b rfl
    rw [Nat.add_zero] at hcell
    obtain ⟨g', off', e9, hb', hcell1⟩ := hc 1 c rfl
    cases e9
    obtain ⟨bx1, bx2⟩ := hx b (by simp)
    obtain ⟨cx1, cx2⟩ := hx c (by simp)
    have HN := Lib.hid (show num [b, c] = 192 + (b - 192) * 256 + c from rfl)
    have s5 : IntKind.i64.wrap (b - 192) = b - 192 := IntWalk.i64_in _ (by omega)
    have s6 : IntKind.i64.wrap ((b - 192) * 256) = (b - 192) * 256 := IntWalk.i64_in _ (by omega)
    have s7 : IntKind.i64.wrap (192 + (b - 192) * 256) = 192 + (b - 192) * 256 := IntWalk.i64_in _ (by omega)
    have s8 : IntKind.i64.wrap (192 + (b - 192) * 256 + c) = 192 + (b - 192) * 256 + c := IntWalk.i64_in _ (by omega)
    simp only [List.length_cons, List.length_nil, Nat.zero_add] at *
    clear hc hx
    go_enter Try.func70, Try.ntmps70
    go_wp2
    go_quiet (fail)
    go_wp2
    go_ret
    exact ⟨ret_int (by rw [HN.out]), _, rfl⟩
  | [b, c, d], _ =>
    obtain ⟨g, off, rfl, hb, hcell⟩ := hc 0 b rfl
    rw [Nat.add_zero] at hcell
    obtain ⟨g', off', e9, hb', hcell1⟩ := hc 1 c rfl
    cases e9
    obtain ⟨g', off', e9, hb', hcell2⟩ := hc 2 d rfl
    cases e9
    obtain ⟨bx1, bx2⟩ := hx b (by simp)
    obtain ⟨cx1, cx2⟩ := hx c (by simp)
    obtain ⟨dx1, dx2⟩ := hx d (by simp)
    have HN := Lib.hid (show num [b, c, d] = 8384 + ((b - 224) * 256 + c) * 256 + d by simp only [num]; omega)
    have s5 : IntKind.i64.wrap (b - 224) = b - 224 := IntWalk.i64_in _ (by omega)
    have s6 : IntKind.i64.wrap ((b - 224) * 256) = (b - 224) * 256 := IntWalk.i64_in _ (by omega)
    have s7 : IntKind.i64.wrap ((b - 224) * 256 + c) = (b - 224) * 256 + c := IntWalk.i64_in _ (by omega)
    simp only [List.length_cons, List.length_nil, Nat.zero_add] at *
    clear hc hx
    go_enter Try.func70, Try.ntmps70
    go_wp2
    go_quiet (fail)
    go_wp2
    go_ret
    exact ⟨ret_int (by rw [HN.out]), _, rfl⟩
end Go.Proofs.Ytkgohnlljbamlaa
