/- Picks: the specification's small functions. -/
import Derived.Test.YtklilfbokpljkaaPqN
import Derived.Test.YtklilfbokpljkaaGood
import Derived.BigQuiet
import Derived.IntWalk
namespace Go.Proofs.Ytklilfbokpljkaa
open Go.ChangeShapes Go.WideShapes Go.ChangeAt Go.RowKit Go.ChangeMaps
set_option linter.unusedSimpArgs false
set_option linter.unusedVariables false

def oneB (p : GPick) : Bool := inB p.pId 1 9999 && (inB p.pStation 1 99 && (inB p.pWave 0 1 && (inB p.pTick 0 1000000 && (inB p.pError 0 1000 && (inB p.pBy 0 50 && inB p.pAfter 0 (p.pId - 1))))))
theorem oneB_iff {p : GPick} : oneB p = true ↔ oneP p := by
  unfold oneB oneP inB
  simp only [Bool.and_eq_true, decide_eq_true_eq]
theorem oneB_yes {p : GPick} (h : oneP p) : oneB p = true := oneB_iff.2 h
theorem oneB_no {p : GPick} (h : ¬ oneP p) : oneB p = false := by
  rw [← Bool.not_eq_true]; exact fun g => h (oneB_iff.1 g)
theorem below_cell {B : Nat} {w : World} (h : B ≤ w.heap.size) (o : Obj) : Below B w (w.alloc o) := (Below.refl _ _).alloc h o

set_option maxHeartbeats 1000000 in
theorem specOne (p : GPick) (u : Bool) (w : World) (hu : oneB p = u) :
    Calls Try.prog 169 #[.agg #[.int .i64 p.pId, .int .i64 p.pStation, .int .i64 p.pWave, .int .i64 p.pTick, .int .i64 p.pError, .int .i64 p.pBy, .int .i64 p.pAfter]] w fun e w' => e = .returned (.bool u) ∧ Below w.heap.size w w' := by
  unfold oneB at hu
  generalize h0 : inB p.pId 1 9999 = b0 at hu
  generalize h1 : inB p.pStation 1 99 = b1 at hu
  generalize h2 : inB p.pWave 0 1 = b2 at hu
  generalize h3 : inB p.pTick 0 1000000 = b3 at hu
  generalize h4 : inB p.pError 0 1000 = b4 at hu
  generalize h5 : inB p.pBy 0 50 = b5 at hu
  generalize h6 : inB p.pAfter 0 (p.pId - 1) = b6 at hu
  have H0 := Lib.hid h0
  have H1 := Lib.hid h1
  have H2 := Lib.hid h2
  have H3 := Lib.hid h3
  have H4 := Lib.hid h4
  have H5 := Lib.hid h5
  have H6 := Lib.hid h6
  have HU := Lib.hid hu
  clear hu h0 h1 h2 h3 h4 h5 h6
  have N := Lib.hid (below_cell (w := w) (Nat.le_refl _) (.cells #[.int .i64 p.pId, .int .i64 p.pStation, .int .i64 p.pWave, .int .i64 p.pTick, .int .i64 p.pError, .int .i64 p.pBy, .int .i64 p.pAfter] 76))
  go_enter Try.func169, Try.ntmps169
  go_wp2_with fail
  refine (specIn _ _ _ b0 _ H0.out).mono ?_
  rintro e w' ⟨rfl, rfl⟩
  cases b0
  case false =>
    have HF : Hid (false = u) := Lib.hid (by rw [← HU.out]; simp)
    go_wp2
    go_ret
    exact ⟨ret_bool HF.out, N.out⟩
  go_wp2_with fail
  refine (specIn _ _ _ b1 _ H1.out).mono ?_
  rintro e w' ⟨rfl, rfl⟩
  cases b1
  case false =>
    have HF : Hid (false = u) := Lib.hid (by rw [← HU.out]; simp)
    go_wp2
    go_ret
    exact ⟨ret_bool HF.out, N.out⟩
  go_wp2_with fail
  refine (specIn _ _ _ b2 _ H2.out).mono ?_
  rintro e w' ⟨rfl, rfl⟩
  cases b2
  case false =>
    have HF : Hid (false = u) := Lib.hid (by rw [← HU.out]; simp)
    go_wp2
    go_ret
    exact ⟨ret_bool HF.out, N.out⟩
  go_wp2_with fail
  refine (specTick _ b3 _ H3.out).mono ?_
  rintro e w' ⟨rfl, rfl⟩
  cases b3
  case false =>
    have HF : Hid (false = u) := Lib.hid (by rw [← HU.out]; simp)
    go_wp2
    go_ret
    exact ⟨ret_bool HF.out, N.out⟩
  go_wp2_with fail
  refine (specIn _ _ _ b4 _ H4.out).mono ?_
  rintro e w' ⟨rfl, rfl⟩
  cases b4
  case false =>
    have HF : Hid (false = u) := Lib.hid (by rw [← HU.out]; simp)
    go_wp2
    go_ret
    exact ⟨ret_bool HF.out, N.out⟩
  go_wp2_with fail
  refine (specIn _ _ _ b5 _ H5.out).mono ?_
  rintro e w' ⟨rfl, rfl⟩
  cases b5
  case false =>
    have HF : Hid (false = u) := Lib.hid (by rw [← HU.out]; simp)
    go_wp2
    go_ret
    exact ⟨ret_bool HF.out, N.out⟩
  obtain ⟨i1, i2⟩ := inB_iff.1 H0.out
  go_wp2_with fail
  refine (specIn _ _ _ b6 _ H6.out).mono ?_
  rintro e w' ⟨rfl, rfl⟩
  have HF : Hid (b6 = u) := Lib.hid (by rw [← HU.out]; simp)
  go_wp2
  go_ret
  exact ⟨ret_bool HF.out, N.out⟩
/-- The first picks of a list, as a part of the slice. -/
theorem lst_take {w : World} {B b off cap : Nat} {xs : List GPick} (h : PickL w B (.slice (some ⟨b, off, none⟩) xs.length cap) xs) {k : Nat} (hk : k ≤ xs.length) : PickL w B (.slice (some ⟨b, off, none⟩) k cap) (xs.take k) := by
  obtain ⟨ao, cap', e, h1, h2, h3, h4⟩ := h
  simp only [Value.slice.injEq] at e
  obtain ⟨rfl, -, rfl⟩ := e
  have hl : (xs.take k).length = k := by rw [List.length_take]; omega
  refine ⟨_, _, by rw [hl], by omega, h2, by simp, fun i x hx => ?_⟩
  have hi : i < k := by have := (List.getElem?_eq_some_iff.1 hx).1; omega
  rw [List.getElem?_take, if_pos hi] at hx
  exact h4 i x hx

set_option maxRecDepth 100000 in
set_option maxHeartbeats 1000000 in
theorem specFind (xs : List GPick) (v : Value) (id r : Int) (w : World) (B : Nat) (h : PickL w B v xs) (hr : isIdx xs id r) (hn : xs.length ≤ 1048576) :
    Calls Try.prog 143 #[v, .int .i64 id] w fun e w' => e = .returned (.int .i64 r) ∧ w' = w := by
  obtain ⟨ao, cap, rfl, hcap, hmax, -, hc⟩ := h
  have HR := Lib.hid hr
  have HC := Lib.hid hc
  clear hc hr
  go_enter Try.func143, Try.ntmps143
  go_wp2
  go_loop [5] (fun i => ∃ k : Nat, k ≤ xs.length ∧ i = .int .i64 k ∧ Hid (∀ j t, xs[j]? = some t → j < k → t.pId ≠ id)) (fun i => xs.length - (intOf i).toNat)
  case atStart => exact ⟨0, Nat.zero_le _, rfl, Lib.hid (fun _ _ _ h => by omega)⟩
  case round =>
    obtain ⟨k, hk, rfl, HN⟩ := hrel
    by_cases hlt : k < xs.length
    case neg =>
      obtain rfl : k = xs.length := by omega
      have HX : Hid (-1 = r) := Lib.hid (isIdx_uniq (idx_of_none fun s hs => by
        obtain ⟨j, hj⟩ := List.mem_iff_getElem?.1 hs
        exact HN.out j s hj (List.getElem?_eq_some_iff.1 hj).1) HR.out)
      go_wp2
      go_ret
      exact ⟨ret_int HX.out, rfl⟩
    obtain ⟨s, hs⟩ := get_of_lt hlt
    obtain ⟨b, off, rfl, hb, hcell⟩ := HC.out k s hs
    have c0 : w.cell? ⟨b, off + k * 7, none⟩ = some (.int .i64 s.pId) := hcell 0 _ rfl
    have HS := Lib.hid hs
    clear hs hcell
    by_cases hid : s.pId = id
    · have HX : Hid ((k : Int) = r) := Lib.hid (isIdx_uniq (idx_of_first HS.out hid HN.out) HR.out)
      go_wp2
      go_ret
      exact ⟨ret_int HX.out, rfl⟩
    · have HN2 : Hid (∀ j t, xs[j]? = some t → j < k + 1 → t.pId ≠ id) := Lib.hid (fun j t ht hj => by
        by_cases e : j = k
        · subst e; have := HS.out; rw [ht] at this; cases this; exact hid
        · exact HN.out j t ht (by omega))
      go_wp2
      go_round
      case rel => exact ⟨k + 1, by omega, by go_num, HN2⟩
      case measure => simp [intOf]; omega
set_option maxRecDepth 100000 in
set_option maxHeartbeats 1000000 in
theorem specCurB (xs : List GPick) (v : Value) (id : Int) (r : Bool) (w : World) (B : Nat) (h : PickL w B v xs) (hr : curB xs id = r) (hn : xs.length ≤ 1048576) :
    Calls Try.prog 151 #[v, .int .i64 id] w fun e w' => e = .returned (.bool r) ∧ w' = w := by
  obtain ⟨ao, cap, rfl, hcap, hmax, -, hc⟩ := h
  have HR := Lib.hid hr
  have HC := Lib.hid hc
  clear hc hr
  go_enter Try.func151, Try.ntmps151
  go_wp2
  go_loop [5] (fun i => ∃ k : Nat, k ≤ xs.length ∧ i = .int .i64 k ∧ Hid (∀ j t, xs[j]? = some t → j < k → t.pAfter ≠ id)) (fun i => xs.length - (intOf i).toNat)
  case atStart => exact ⟨0, Nat.zero_le _, rfl, Lib.hid (fun _ _ _ h => by omega)⟩
  case round =>
    obtain ⟨k, hk, rfl, HN⟩ := hrel
    by_cases hlt : k < xs.length
    case neg =>
      obtain rfl : k = xs.length := by omega
      have HX : Hid (true = r) := Lib.hid (by rw [← HR.out]; exact (cur_yes fun s hs => by
        obtain ⟨j, hj⟩ := List.mem_iff_getElem?.1 hs
        exact HN.out j s hj (List.getElem?_eq_some_iff.1 hj).1).symm)
      go_wp2
      go_ret
      exact ⟨ret_bool HX.out, rfl⟩
    obtain ⟨s, hs⟩ := get_of_lt hlt
    obtain ⟨b, off, rfl, hb, hcell⟩ := HC.out k s hs
    have c6 : w.cell? ⟨b, off + k * 7 + 6, none⟩ = some (.int .i64 s.pAfter) := hcell 6 _ rfl
    have HS := Lib.hid hs
    clear hs hcell
    by_cases hid : s.pAfter = id
    · have HX : Hid (false = r) := Lib.hid (by rw [← HR.out]; exact (cur_no (List.mem_of_getElem? HS.out) hid).symm)
      go_wp2
      go_ret
      exact ⟨ret_bool HX.out, rfl⟩
    · have HN2 : Hid (∀ j t, xs[j]? = some t → j < k + 1 → t.pAfter ≠ id) := Lib.hid (fun j t ht hj => by
        by_cases e : j = k
        · subst e; have := HS.out; rw [ht] at this; cases this; exact hid
        · exact HN.out j t ht (by omega))
      go_wp2
      go_round
      case rel => exact ⟨k + 1, by omega, by go_num, HN2⟩
      case measure => simp [intOf]; omega
end Go.Proofs.Ytklilfbokpljkaa
