/- Integer filters: the program's small functions. -/
import Derived.Test.YtklilfbokpljkaaFiA
import Derived.BigQuiet
import Derived.IntWalk
import Derived.Lib.MinMax
namespace Go.Proofs.Ytklilfbokpljkaa
open Go.ChangeShapes Go.WideShapes Go.ChangeAt Go.RowKit Go.ChangeMaps
set_option linter.unusedSimpArgs false
set_option linter.unusedVariables false

def inW (lo hi : Int) (l : List Int) : Bool := decide (∀ x ∈ l, lo ≤ x ∧ x ≤ hi)
theorem inW_bad {lo hi : Int} {l : List Int} {k : Nat} {x : Int} (hx : l[k]? = some x) (h : ¬ (lo ≤ x ∧ x ≤ hi)) : inW lo hi l = false := decide_eq_false fun g => h (g x (List.mem_of_getElem? hx))
theorem inW_snoc {lo hi : Int} {l : List Int} {k : Nat} {x : Int} (hx : l[k]? = some x) (h : lo ≤ x ∧ x ≤ hi) (g : inW lo hi (l.take k) = true) : inW lo hi (l.take (k + 1)) = true := by
  unfold inW at *
  rw [take_snoc hx]
  have g' := of_decide_eq_true g
  refine decide_eq_true fun y hy => ?_
  rcases List.mem_append.1 hy with hy | hy
  · exact g' y hy
  · rw [List.mem_singleton.1 hy]; exact h
theorem inW_one (lo hi n : Int) : inW lo hi [n] = inR n lo hi := by unfold inW inR; rw [decide_eq_decide]; simp
theorem inW_ws (ws : List Int) : inW (-100) 100 ws = decide (∀ w ∈ ws, -100 ≤ w ∧ w ≤ 100) := rfl

set_option maxHeartbeats 400000 in
theorem implWithin (lo hi : Int) (xs : List Int) (v : Value) (w : World) (B : Nat) (h : Lst (Value.int .i64) w B v xs) :
    Calls Try.prog 109 #[.int .i64 lo, .int .i64 hi, v] w fun e w' => e = .returned (.bool (inW lo hi xs)) ∧ w' = w := by
  obtain ⟨ao, cap, rfl, hcap, hmax, -, hc⟩ := h
  unfold maxLen at hmax
  have HC := Lib.hid hc
  clear hc
  go_enter Try.func109, Try.ntmps109
  go_wp2
  go_loop [11] (fun i => ∃ k : Nat, k ≤ xs.length ∧ i = .int .i64 k ∧ inW lo hi (xs.take k) = true) (fun i => xs.length - (intOf i).toNat)
  case atStart => exact ⟨0, Nat.zero_le _, rfl, by simp [inW]⟩
  case round =>
    obtain ⟨k, hk, rfl, hok⟩ := hrel
    have HO := Lib.hid hok
    clear hok
    by_cases hlt : k < xs.length
    · obtain ⟨x, hx⟩ := get_of_lt hlt
      obtain ⟨b, off, rfl, hb, hcell⟩ := HC.out k x hx
      have HX := Lib.hid hx
      clear hx
      by_cases hi1 : lo ≤ x
      · by_cases hi2 : x ≤ hi
        · go_wp2
          go_round
          case rel => exact ⟨k + 1, by omega, by go_num, inW_snoc HX.out ⟨hi1, hi2⟩ HO.out⟩
          case measure => simp [intOf]; omega
        · have HG := Lib.hid (inW_bad (lo := lo) HX.out (fun g => hi2 g.2))
          go_wp2
          go_ret
          exact ⟨ret_bool HG.out.symm, rfl⟩
      · have HG := Lib.hid (inW_bad (hi := hi) HX.out (fun g => hi1 g.1))
        go_wp2
        go_ret
        exact ⟨ret_bool HG.out.symm, rfl⟩
    · rw [take_all hlt] at HO
      go_wp2
      go_ret
      exact ⟨ret_bool HO.out.symm, rfl⟩
theorem box_lst (w : World) (n : Int) (t : TypeId) : Lst (Value.int .i64) (w.alloc (.cells #[.int .i64 n] t)) (w.heap.size + 1) (.slice (some ⟨w.heap.size, 0, none⟩) 1 1) [n] := by
  refine ⟨_, _, rfl, by simp, by simp [maxLen], by simp, fun i x hi => ?_⟩
  have hlt := (List.getElem?_eq_some_iff.1 hi).1
  obtain rfl : i = 0 := by simpa using hlt
  simp only [List.getElem?_cons_zero, Option.some.injEq] at hi
  subst hi
  exact ⟨_, _, rfl, by omega, (Bx.new w [.int .i64 n] t).2 0 _ rfl⟩
theorem row_empty1 (w : World) (o : Obj) {base : Nat} (e : TypeId) (size : Nat) (h : base ≤ w.heap.size + 1) : ((w.alloc o).alloc (.cells #[] e)).ownsRow base e size (.slice (some ⟨w.heap.size + 1, 0, none⟩) 0 0) 0 [] := by
  have := row_empty (w.alloc o) (base := base) e size (by simpa using h)
  rwa [show (w.alloc o).heap.size = w.heap.size + 1 by simp] at this
theorem own_empty1 {α : Type} {en : α → Value} (w : World) (o : Obj) {L : Nat} (e : TypeId) (h : L ≤ w.heap.size + 1) : Own en ((w.alloc o).alloc (.cells #[] e)) L ((w.alloc o).alloc (.cells #[] e)).heap.size (.slice (some ⟨w.heap.size + 1, 0, none⟩) 0 0) [] := Own.of_row (row_empty1 w o e 1 h)
theorem implIn (lo hi n : Int) (w : World) (t : TypeId) (r : Bool) (h : inR n lo hi = r) :
    Calls Try.prog 109 #[.int .i64 lo, .int .i64 hi, .slice (some ⟨w.heap.size, 0, none⟩) 1 1] (w.alloc (.cells #[.int .i64 n] t)) fun e w' => e = .returned (.bool r) ∧ w' = w.alloc (.cells #[.int .i64 n] t) := by
  have := implWithin lo hi [n] _ _ _ (box_lst w n t)
  rwa [inW_one, h] at this
end Go.Proofs.Ytklilfbokpljkaa
