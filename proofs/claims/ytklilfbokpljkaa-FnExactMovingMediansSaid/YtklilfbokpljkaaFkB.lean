/- Integer filters: the program's moving sums. -/
import Derived.Test.YtklilfbokpljkaaFkA
import Derived.Test.YtklilfbokpljkaaFiE
namespace Go.Proofs.Ytklilfbokpljkaa
open Go.ChangeShapes Go.WideShapes Go.ChangeAt Go.RowKit Go.ChangeMaps Go.Shelf
set_option linter.unusedSimpArgs false
set_option linter.unusedVariables false

attribute [local go_sem] Oper.semAt_some

set_option maxHeartbeats 400000 in
theorem implTotal (xs : List Int) (v : Value) (w : World) (B : Nat) (h : Lst (Value.int .i64) w B v xs) (hn : xs.length ≤ 1000) (hx : ∀ x ∈ xs, -100000 ≤ x ∧ x ≤ 100000) :
    Calls Try.prog 136 #[v] w fun e w' => e = .returned (.int .i64 (lsum xs)) ∧ w' = w := by
  obtain ⟨ao, cap, rfl, hcap, hmax, -, hc⟩ := h
  unfold maxLen at hmax
  have HC := Lib.hid hc
  have HX := Lib.hid hx
  clear hc hx
  go_enter Try.func136, Try.ntmps136
  go_wp2
  go_loop [3, 8] (fun s i => ∃ k : Nat, k ≤ xs.length ∧ i = .int .i64 k ∧ s = .int .i64 (lsum (xs.take k))) (fun _ i => xs.length - (intOf i).toNat)
  case atStart => exact ⟨0, Nat.zero_le _, rfl, by simp [lsum]⟩
  case round =>
    obtain ⟨k, hk, rfl, rfl⟩ := hrel
    by_cases hlt : k < xs.length
    · obtain ⟨x, hx⟩ := get_of_lt hlt
      obtain ⟨b, off, rfl, hb, hcell⟩ := HC.out k x hx
      obtain ⟨bx1, bx2⟩ := HX.out x (List.mem_of_getElem? hx)
      have HS := Lib.hid (show lsum (xs.take k) + x = lsum (xs.take (k + 1)) by rw [take_snoc hx, lsum_snoc])
      have sb := lsum_bd 100000 (by omega) (xs.take k) (fun x h => HX.out x (List.mem_of_mem_take h))
      have sl : (xs.take k).length ≤ 1000 := by rw [List.length_take]; omega
      generalize (xs.take k).length = L at *
      generalize lsum (xs.take k) = s at *
      have sb1 : -100000000 ≤ s ∧ s ≤ 100000000 := by omega
      obtain ⟨sb2, sb3⟩ := sb1
      clear hx sb sl
      go_wp2
      go_round
      case rel => exact ⟨k + 1, by omega, by go_num, by rw [HS.out]⟩
      case measure => simp [intOf]; omega
    · obtain rfl : k = xs.length := by omega
      rw [List.take_length]
      go_wp2
      go_ret
      exact ⟨rfl, rfl⟩
theorem windows_in (F : Fence) (m : Nat) (h5 : F.fn 126) (hro : F.round = none) (ao : Option Addr) (n cap : Nat) (x y : Int) (w : World) :
    CallsIn F m Try.prog 126 #[.slice ao n cap, .int .i64 x, .int .i64 y] w fun e w' => e = .returned (.func (.func 165) #[] #[.pointer (some ⟨w.heap.size, 0, none⟩), .pointer (some ⟨w.heap.size + 1, 0, none⟩), .pointer (some ⟨w.heap.size + 1 + 1, 0, none⟩)]) ∧
      w' = ((w.alloc (.cells #[.slice ao n cap] 43)).alloc (.cells #[.int .i64 x] 3)).alloc (.cells #[.int .i64 y] 3) := by
  refine callsIn_of_wp Try.func126 rfl h5 ?_ hro
  simp only [Try.ntmps126, List.size_toArray, List.length_cons, List.length_nil, Nat.reduceAdd, Nat.reduceSub, Array.replicate_succ, Array.replicate_zero, List.push_toArray, List.append_toArray, List.nil_append, List.cons_append]
  gi_wp2
  go_ret
  exact ⟨rfl, rfl⟩
theorem windows_stops (F : Fence) (m : Nat) (h6 : F.fn 165) (hro : F.round = none) (hm : 1 ≤ m) (B1 B2 B3 : Nat) (ao : Option Addr) (n cap bf af bk off : Nat)
    (hao : 0 < n → ao = some ⟨bk, off, none⟩) (hnc : n ≤ cap) (hn : n ≤ 1048576) (hbf : bf ≤ 1000) (haf : af ≤ 1000) (w : World) (hb1 : B1 < w.heap.size) (hb2 : B2 < w.heap.size) (hb3 : B3 < w.heap.size)
    (hc1 : w.cell? ⟨B1, 0, none⟩ = some (.slice ao n cap)) (hc2 : w.cell? ⟨B2, 0, none⟩ = some (.int .i64 bf)) (hc3 : w.cell? ⟨B3, 0, none⟩ = some (.int .i64 af)) :
    SeqStopsK F m Try.prog 165 #[.pointer (some ⟨B1, 0, none⟩), .pointer (some ⟨B2, 0, none⟩), .pointer (some ⟨B3, 0, none⟩)] (fun x : Fin n => #[winV bk off n cap bf af x.1]) (KeepsThree B1 B2 B3) (fun ys => ys = List.finRange n) (fun _ => True) n w := fun l J Jx W hW hJ _ hY h0 =>
  win1_in F m h6 hro hm l B1 B2 B3 ao n cap bf af bk off hao hnc hn hbf haf J Jx hY W hJ (cellOf hW hb1 hc1) (cellOf hW hb2 hc2) (cellOf hW hb3 hc3) h0

theorem Lst.subF {α : Type} {en : α → Value} {w : World} {B b off n cap : Nat} {xs : List α} (h : Lst en w B (.slice (some ⟨b, off, none⟩) n cap) xs) (i j : Nat) (hij : i ≤ j) (hj : j ≤ xs.length) :
    Lst en w B (.slice (some ⟨b, off + i, none⟩) (j - i) (cap - i)) ((xs.drop i).take (j - i)) := by
  obtain ⟨ao, cap', hv, h1, h2, h3, h4⟩ := h
  simp only [Value.slice.injEq] at hv
  obtain ⟨rfl, rfl, rfl⟩ := hv
  have hl : ((xs.drop i).take (j - i)).length = j - i := by rw [List.length_take, List.length_drop]; omega
  refine ⟨_, _, by rw [hl], by omega, by omega, by simp, fun q x hx => ?_⟩
  have hq : q < j - i := by have := (List.getElem?_eq_some_iff.1 hx).1; omega
  rw [List.getElem?_take, if_pos hq, List.getElem?_drop] at hx
  obtain ⟨b', off', e, hb, hc⟩ := h4 (i + q) x hx
  cases e
  exact ⟨b, off + i, rfl, hb, by rw [Nat.add_assoc]; exact hc⟩
theorem win_partF (xs : List Int) (b a i : Nat) : win xs b a i = (xs.drop (i - b)).take (min xs.length (i + a + 1) - (i - b)) := by
  unfold win
  rw [List.drop_take]
  rcases Nat.le_total xs.length (i + a + 1) with h | h
  · rw [Nat.min_eq_left h, List.take_of_length_le (by rw [List.length_drop]; omega), List.take_of_length_le (by rw [List.length_drop]; omega)]
  · rw [Nat.min_eq_right h]
/-- The window is what the slice holds. -/
theorem win_lst {xs : List Int} {w : World} {B : Nat} {bk off cap bf af i : Nat} (h : Lst (Value.int .i64) w B (.slice (some ⟨bk, off, none⟩) xs.length cap) xs) (hi : i < xs.length) : Lst (Value.int .i64) w B (winV bk off xs.length cap bf af i) (win xs bf af i) := by
  have := Lst.subF h (i - bf) (min xs.length (i + af + 1)) (by omega) (by omega)
  rwa [← win_partF] at this
end Go.Proofs.Ytklilfbokpljkaa
