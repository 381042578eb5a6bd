/- Arrival: what it reads as; the laws' helpers on it and on slices of it. -/
import Derived.Test.YtdiedfpfhbdamaaFlat
import Derived.Handy
import Derived.Deep.Slices
import Derived.Deep.Fields
namespace Go.Proofs.Ytdiedfpfhbdamaa
open Go.ChangeShapes Go.WideShapes Go.ChangeAt Go.RowKit Go.ChangeMaps
set_option linter.unusedSimpArgs false
set_option linter.unusedVariables false

structure GArrival where
  pId : Int
  pX : Int
  pY : Int
  pTick : Int
  pError : Int
def encArrival (s : GArrival) : List Value := [.int .i64 s.pId, .int .i64 s.pX, .int .i64 s.pY, .int .i64 s.pTick, .int .i64 s.pError]
theorem encArrival_len : ∀ s, (encArrival s).length = 5 := fun _ => rfl
def zeroArrival : GArrival := ⟨0, 0, 0, 0, 0⟩
abbrev ArrivalL (w : World) (B : Nat) (v : Value) (xs : List GArrival) : Prop := LstK encArrival 5 w B v xs
abbrev ArrivalO (w : World) (L B : Nat) (v : Value) (xs : List GArrival) : Prop := OwnK encArrival 5 w L B v xs
def sz1Arrival (s : GArrival) : Nat := 0
def szsArrival (xs : List GArrival) : Nat := (xs.map fun s => 1 + sz1Arrival s).sum
theorem szsArrival_len (xs : List GArrival) : xs.length ≤ szsArrival xs := by
  unfold szsArrival
  induction xs with
  | nil => simp
  | cons a l ih => simp only [List.map_cons, List.sum_cons, List.length_cons]; omega
theorem szsArrival_mem {xs : List GArrival} {s : GArrival} (h : s ∈ xs) : sz1Arrival s ≤ szsArrival xs := by
  unfold szsArrival
  induction xs with
  | nil => simp at h
  | cons a l ih =>
    simp only [List.map_cons, List.sum_cons]
    rcases List.mem_cons.1 h with rfl | h
    · omega
    · have := ih h; omega
theorem szsArrival_split (xs : List GArrival) : szsArrival xs = xs.length := by
  unfold szsArrival
  induction xs with
  | nil => simp
  | cons a l ih => rw [List.map_cons, List.sum_cons, List.length_cons, ih]; unfold sz1Arrival; omega

/-- One of them by value. -/
def ArrivalV (v : Value) (s : GArrival) : Prop := v = .agg #[.int .i64 s.pId, .int .i64 s.pX, .int .i64 s.pY, .int .i64 s.pTick, .int .i64 s.pError]
theorem info_Arrival : (Try.prog.info? 39).map (fun i => (i.zero, i.size, i.bytes)) = some (some (.agg #[.int .i64 0, .int .i64 0, .int .i64 0, .int .i64 0, .int .i64 0]), 5, 40) := by kernel_rfl
def mkArrival (k : Int) : GArrival := ⟨k, k + 1, k + 1 + 1, k + 1 + 1 + 1, k + 1 + 1 + 1 + 1⟩
def marksArrival (k : Int) (n : Nat) : List GArrival := (List.range n).map fun (i : Nat) => mkArrival (k + 5 * i)
theorem marksArrival_get {k : Int} {n i : Nat} (h : i < n) : (marksArrival k n)[i]? = some (mkArrival (k + 5 * i)) := by simp [marksArrival, h]
theorem marksArrival_len (k : Int) (n : Nat) : (marksArrival k n).length = n := by simp [marksArrival]
theorem eq_marksArrival {k : Int} {n : Nat} {cs : List GArrival} (hl : cs.length = n) (h : ∀ i, i < n → cs[i]? = some (mkArrival (k + 5 * i))) : cs = marksArrival k n := by
  apply List.ext_getElem?
  intro i
  by_cases hi : i < n
  · rw [h i hi, marksArrival_get hi]
  · rw [List.getElem?_eq_none (by omega), List.getElem?_eq_none (by rw [marksArrival_len]; omega)]
theorem oneArrival (xs : List GArrival) : ∀ u ∈ xs.flatMap encArrival, u.oneCell' = true := by
  intro u hu
  obtain ⟨x, _, hx⟩ := List.mem_flatMap.1 hu
  simp only [encArrival, List.mem_cons, List.not_mem_nil, or_false] at hx
  rcases hx with rfl | rfl | rfl | rfl | rfl <;> rfl
theorem cloneArrival (xs : List GArrival) (v : Value) (w : World) (B : Nat) (h : ArrivalL w B v xs) (hB : B ≤ w.heap.size) (hn : xs.length ≤ 1048576) :
    Calls Try.prog 132 #[v] w fun e w' => ∃ v', e = .returned v' ∧ ArrivalO w' w.heap.size w'.heap.size v' xs ∧ Below w.heap.size w w' := by
  obtain ⟨ti, hi, hz0, hz1, hz2⟩ := info_parts info_Arrival
  have hrow := rowK_empty w (base := w.heap.size) 39 5 (Nat.le_refl _)
  have hnil := fun (W : World) (a : Option Addr) (l c : Nat) => Lib.run_eql_slice_nil (P := Try.prog) W 24 39 a l c 0 0 Try.underlying24
  rcases h.split encArrival_len (by omega) with ⟨rfl, rfl⟩ | ⟨a, cap, rfl, _, _, hc⟩
  · go_enter Try.func132, Try.ntmps132
    go_wp2
    go_ret
    exact ⟨_, rfl, OwnK.of_row encArrival_len (by omega) (World.ownsRow_nil _ _ 39 5), Below.refl _ _⟩
  · have HC := Lib.hid (fun j u (hu : (xs.flatMap encArrival)[j]? = some u) => (((Below.refl B w).alloc hB (.cells #[] 39)).cell (hc j u hu).1).trans (hc j u hu).2)
    have H1 := Lib.hid (oneArrival xs)
    have HL : Hid ((xs.flatMap encArrival).length = xs.length * 5) := Lib.hid (flat_len encArrival_len xs)
    clear hc h
    go_enter Try.func132, Try.ntmps132
    go_wp2_with (at_builtin; refine wpList_append_own _ rfl _ _ 24 rfl w.heap.size 39 ti (.agg #[.int .i64 0, .int .i64 0, .int .i64 0, .int .i64 0, .int .i64 0]) 5 40 Try.underlying24 hi hz0 hz1 hz2 rfl (by decide) _ 0 [] rfl hrow a xs.length _ (xs.flatMap encArrival) rfl HL.out HC.out H1.out (by unfold maxLen; omega) (by omega) (by simp) ?_; intro v' w1 hown hg _)
    go_ret
    have ho : w1.ownsRow w.heap.size 39 5 v' xs.length (xs.flatMap encArrival) := by simpa using hown
    exact ⟨_, rfl, OwnK.of_row encArrival_len (by omega) ho, below_appK hg (by intro g e; cases e; exact Nat.le_refl _)⟩
def wfArrival (s : GArrival) : Prop := I64 s.pId ∧ I64 s.pX ∧ I64 s.pY ∧ I64 s.pTick ∧ I64 s.pError
/-- One of them, by value. -/
def ArrivalVL (_ : World) (_ : Nat) (v : Value) (s : GArrival) : Prop := v = .agg #[.int .i64 s.pId, .int .i64 s.pX, .int .i64 s.pY, .int .i64 s.pTick, .int .i64 s.pError]
def ArrivalVO (_ : World) (_ _ : Nat) (v : Value) (s : GArrival) : Prop := v = .agg #[.int .i64 s.pId, .int .i64 s.pX, .int .i64 s.pY, .int .i64 s.pTick, .int .i64 s.pError]
theorem ArrivalVO.lst {w : World} {L B : Nat} {v : Value} {s : GArrival} (h : ArrivalVO w L B v s) : ArrivalVL w B v s := h
theorem ArrivalVL.below {w w' : World} {B : Nat} {v : Value} {s : GArrival} (h : ArrivalVL w B v s) (_ : Below B w w') : ArrivalVL w' B v s := h
theorem ArrivalVL.mono {w : World} {B B' : Nat} {v : Value} {s : GArrival} (h : ArrivalVL w B v s) (_ : B ≤ B') : ArrivalVL w B' v s := h
theorem ArrivalVO.below {w w' : World} {L B : Nat} {v : Value} {s : GArrival} (h : ArrivalVO w L B v s) (_ : Below B w w') : ArrivalVO w' L B v s := h
theorem ArrivalVO.mono {w : World} {L B L' B' : Nat} {v : Value} {s : GArrival} (h : ArrivalVO w L B v s) (_ : L' ≤ L) (_ : B ≤ B') : ArrivalVO w L' B' v s := h
theorem ArrivalVO.high {w w' : World} {L B L' U' : Nat} {v : Value} {s : GArrival} (h : ArrivalVO w L B v s) (_ : Upd L' U' w w') (_ : U' ≤ L) : ArrivalVO w' L B v s := h
theorem ArrivalVL.form {w : World} {B : Nat} {v : Value} {s : GArrival} (h : ArrivalVL w B v s) : v = .agg #[.int .i64 s.pId, .int .i64 s.pX, .int .i64 s.pY, .int .i64 s.pTick, .int .i64 s.pError] := h
theorem ArrivalVO.form {w : World} {L B : Nat} {v : Value} {s : GArrival} (h : ArrivalVO w L B v s) : v = .agg #[.int .i64 s.pId, .int .i64 s.pX, .int .i64 s.pY, .int .i64 s.pTick, .int .i64 s.pError] := h
end Go.Proofs.Ytdiedfpfhbdamaa
