/- The specification's split: contract. -/
import Derived.Test.YtedngmnjpkhbiaaDoorHas
namespace Go.Proofs.YtedngmnjpkhbiaaDoor
open Go.ChangeShapes Go.WideShapes Go.ChangeAt Go.RowKit Go.ChangeMaps
set_option linter.unusedSimpArgs false
set_option linter.unusedVariables false

/-- The parts of a text between bytes. -/
def splitOn (c : UInt8) : List UInt8 → List (List UInt8)
  | [] => [[]]
  | b :: r => if b = c then [] :: splitOn c r else match splitOn c r with
    | p :: ps => (b :: p) :: ps
    | [] => [[b]]
def parts (s : ByteArray) (c : UInt8) : List ByteArray := (splitOn c s.data.toList).map fun l => ⟨l.toArray⟩

/-- What a scan has after k bytes: the parts that are whole, and the place where the last one begins. -/
def scan (c : UInt8) (s : ByteArray) : Nat → List ByteArray × Nat
  | 0 => ([], 0)
  | k + 1 =>
    let p := scan c s k
    if s.data.toList[k]? = some c then (p.1 ++ [s.extract p.2 k], k + 1) else p
theorem scan_hit {c : UInt8} {s : ByteArray} {k : Nat} (h : s.data.toList[k]? = some c) : scan c s (k + 1) = ((scan c s k).1 ++ [s.extract (scan c s k).2 k], k + 1) := by
  simp only [scan]; rw [if_pos h]
theorem scan_miss {c : UInt8} {s : ByteArray} {k : Nat} (h : ¬ s.data.toList[k]? = some c) : scan c s (k + 1) = scan c s k := by
  simp only [scan]; rw [if_neg h]
theorem scan_le (c : UInt8) (s : ByteArray) : ∀ k, (scan c s k).2 ≤ k ∧ (scan c s k).1.length ≤ k := by
  intro k
  induction k with
  | zero => simp [scan]
  | succ k ih =>
    by_cases h : s.data.toList[k]? = some c
    · rw [scan_hit h]; simp; omega
    · rw [scan_miss h]; omega
def split (s : ByteArray) (c : UInt8) : List ByteArray := (scan c s s.size).1 ++ [s.extract (scan c s s.size).2 s.size]
theorem split_len (s : ByteArray) (c : UInt8) : 0 < (split s c).length ∧ (split s c).length ≤ s.size + 1 := by
  unfold split
  have := (scan_le c s s.size).2
  simp
  omega

set_option maxHeartbeats 1000000 in
theorem l1Split_any (s : ByteArray) (c : UInt8) (w : World) (hs : s.size ≤ 1048576) :
    Calls Tryd.prog 36 #[.string s, .int .u8 c.toNat] w fun e w' => ∃ v, e = .returned v ∧ w'.ownsRow w.heap.size 9 1 v (split s c).length ((split s c).map Value.string) ∧ Below w.heap.size w w' := by
  obtain ⟨ti, hi, hz0, hz1, hz2⟩ := info_parts (show (Tryd.prog.info? 9).map (fun i => (i.zero, i.size, i.bytes)) = some (some (.string .empty), 1, 16) by kernel_rfl)
  go_enter Tryd.func36, Tryd.ntmps36
  go_wp2
  go_loopw [5, 6, 7] (fun o f i wr => ∃ (k : Nat) (v : Value), k ≤ s.size ∧ i = .int .i64 k ∧ f = .int .i64 (scan c s k).2 ∧ o = v ∧ wr.ownsRow w.heap.size 9 1 v (scan c s k).1.length ((scan c s k).1.map Value.string) ∧ Below w.heap.size w wr ∧ (∃ ao cap, v = .slice ao (scan c s k).1.length cap))
    (fun _ _ i _ => s.size - (intOf i).toNat)
  case atStart =>
    refine ⟨0, _, Nat.zero_le _, rfl, rfl, rfl, ?_, (Below.refl _ _).alloc (Nat.le_refl _) _, _, _, rfl⟩
    exact World.ownsRow_made w #[] 0 (Nat.le_refl _) (by simp [maxLen]) rfl
  case round =>
    obtain ⟨k, _, hk, rfl, rfl, rfl, hrow, hbl, ao, cap, rfl⟩ := hrel
    have hsc := scan_le c s k
    have hsz := hbl.size
    by_cases hlt : k < s.size
    · have hb := byteAt s k hlt
      by_cases he : (s[k].toNat : Int) = c.toNat
      · have he1 : ((s[k].toNat : Int) == c.toNat) = true := by simpa using he
        have HS := Lib.hid (scan_hit (s := s) (k := k) (c := c) (by rw [hb, u8_inj he]))
        clear he hb
        have hfk : (scan c s k).2 ≤ k := hsc.1
        have hl9 : (scan c s k).1.length ≤ 1048576 := by omega
        go_wp2_with (at_builtin; refine wpList_append_own _ rfl _ _ 44 rfl w.heap.size 9 ti (.string .empty) 1 16 Tryd.underlying44 hi hz0 hz1 hz2 rfl (by decide) _ _ _ rfl (hrow.alloc _) ⟨wr.heap.size, 0, none⟩ 1 1 [.string (s.extract (scan c s k).2 k)] rfl rfl (cell_one_new _ _ _) (by simp [Value.oneCell']) (by unfold maxLen; omega) (by omega) (by simp; omega) ?_; intro v' w1 hown' hgrow _)
        go_roundw
        case rel =>
          refine ⟨k + 1, _, by omega, by go_num, by rw [HS.out]; go_num, rfl, ?_, below_append hbl hrow hgrow hsz, ?_⟩
          · rw [HS.out]; simpa using hown'
          · rw [HS.out]; simpa using row_form hown'
        case measure => simp [intOf]; omega
      · have he1 : ((s[k].toNat : Int) == c.toNat) = false := by simpa using he
        have HS := Lib.hid (scan_miss (s := s) (k := k) (c := c) (by rw [hb]; intro e; exact he (by rw [Option.some.inj e])))
        clear he hb
        go_wp2
        go_roundw
        case rel =>
          refine ⟨k + 1, _, by omega, by go_num, by rw [HS.out], rfl, ?_, hbl, ?_⟩
          · rw [HS.out]; exact hrow
          · rw [HS.out]; exact ⟨_, _, rfl⟩
        case measure => simp [intOf]; omega
    · obtain rfl : k = s.size := by omega
      have hfk : (scan c s s.size).2 ≤ s.size := hsc.1
      have hl9 : (scan c s s.size).1.length ≤ 1048576 := by omega
      go_wp2_with (at_builtin; refine wpList_append_own _ rfl _ _ 44 rfl w.heap.size 9 ti (.string .empty) 1 16 Tryd.underlying44 hi hz0 hz1 hz2 rfl (by decide) _ _ _ rfl (hrow.alloc _) ⟨wr.heap.size, 0, none⟩ 1 1 [.string (s.extract (scan c s s.size).2 s.size)] rfl rfl (cell_one_new _ _ _) (by simp [Value.oneCell']) (by unfold maxLen; omega) (by omega) (by simp; omega) ?_; intro v' w1 hown' hgrow _)
      go_ret
      refine ⟨_, rfl, ?_, below_append hbl hrow hgrow hsz⟩
      unfold split
      simpa using hown'
end Go.Proofs.YtedngmnjpkhbiaaDoor
