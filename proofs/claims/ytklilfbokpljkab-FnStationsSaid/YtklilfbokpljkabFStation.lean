/- Station: what it reads as; the laws' helpers on it and on slices of it. -/
import Derived.Test.YtklilfbokpljkabFlat
import Derived.Handy
import Derived.Deep.Slices
import Derived.Deep.Fields
import Derived.Test.YtklilfbokpljkabStr
namespace Go.Proofs.Ytklilfbokpljkab
open Go.ChangeShapes Go.WideShapes Go.ChangeAt Go.RowKit Go.ChangeMaps
set_option linter.unusedSimpArgs false
set_option linter.unusedVariables false

structure GStation where
  pId : Int
  pName : ByteArray
  pX : Int
  pY : Int
  pGain : Int
  pLow : Int
  pHigh : Int
  pUntil : Int
def encStation (s : GStation) : List Value := [.int .i64 s.pId, .string s.pName, .int .i64 s.pX, .int .i64 s.pY, .int .i64 s.pGain, .int .i64 s.pLow, .int .i64 s.pHigh, .int .i64 s.pUntil]
theorem encStation_len : ∀ s, (encStation s).length = 8 := fun _ => rfl
def zeroStation : GStation := ⟨0, .empty, 0, 0, 0, 0, 0, 0⟩
abbrev StationL (w : World) (B : Nat) (v : Value) (xs : List GStation) : Prop := LstK encStation 8 w B v xs
abbrev StationO (w : World) (L B : Nat) (v : Value) (xs : List GStation) : Prop := OwnK encStation 8 w L B v xs
def sz1Station (s : GStation) : Nat := 0 + s.pName.size
def szsStation (xs : List GStation) : Nat := (xs.map fun s => 1 + sz1Station s).sum
theorem szsStation_len (xs : List GStation) : xs.length ≤ szsStation xs := by
  unfold szsStation
  induction xs with
  | nil => simp
  | cons a l ih => simp only [List.map_cons, List.sum_cons, List.length_cons]; omega
theorem szsStation_mem {xs : List GStation} {s : GStation} (h : s ∈ xs) : sz1Station s ≤ szsStation xs := by
  unfold szsStation
  induction xs with
  | nil => simp at h
  | cons a l ih =>
    simp only [List.map_cons, List.sum_cons]
    rcases List.mem_cons.1 h with rfl | h
    · omega
    · have := ih h; omega
def szpStation (xs : List GStation) (k : Nat) : Nat := ((xs.take k).map sz1Station).sum
theorem szpStation_zero (xs : List GStation) : szpStation xs 0 = 0 := by simp [szpStation]
theorem szpStation_succ {xs : List GStation} {k : Nat} {s : GStation} (h : xs[k]? = some s) : szpStation xs (k + 1) = szpStation xs k + sz1Station s := by
  unfold szpStation; rw [take_snoc h, List.map_append, List.sum_append]; simp
theorem szsStation_split (xs : List GStation) : szsStation xs = xs.length + szpStation xs xs.length := by
  unfold szsStation szpStation
  rw [List.take_length]
  induction xs with
  | nil => simp
  | cons a l ih => simp only [List.map_cons, List.sum_cons, List.length_cons, ih]; omega
theorem szpStation_le (xs : List GStation) (k : Nat) : szpStation xs k ≤ szpStation xs xs.length := by
  unfold szpStation
  rw [List.take_length]
  conv => rhs; rw [← List.take_append_drop k xs, List.map_append, List.sum_append]
  omega

theorem szStation_le0 (s : GStation) (left : Int) (w : World) (h0 : 0 ≤ left) (h1 : left ≤ 1048576) (ht : (sz1Station s : Int) ≤ left) :
    Calls Try.prog 51 #[.agg #[.int .i64 s.pId, .string s.pName, .int .i64 s.pX, .int .i64 s.pY, .int .i64 s.pGain, .int .i64 s.pLow, .int .i64 s.pHigh, .int .i64 s.pUntil], .int .i64 left] w fun e w' => e = .returned (.int .i64 (left - sz1Station s)) ∧ Below w.heap.size w w' := by
  unfold sz1Station at *
  go_enter Try.func51, Try.ntmps51
  go_wp2
  go_ret
  exact ⟨ret_int (by first | omega | (simp; done) | (simp; omega)), (Below.refl _ _).alloc (Nat.le_refl _) _⟩
theorem szStation_gt0 (s : GStation) (left : Int) (w : World) (h0 : 0 ≤ left) (h1 : left ≤ 1048576) (hzName : (s.pName.size : Int) ≤ 9223372036854775807) (ht : left < (sz1Station s : Int)) :
    Calls Try.prog 51 #[.agg #[.int .i64 s.pId, .string s.pName, .int .i64 s.pX, .int .i64 s.pY, .int .i64 s.pGain, .int .i64 s.pLow, .int .i64 s.pHigh, .int .i64 s.pUntil], .int .i64 left] w fun e w' => e = .returned (.int .i64 (-1)) ∧ Below w.heap.size w w' := by
  unfold sz1Station at *
  go_enter Try.func51, Try.ntmps51
  go_wp2
  all_goals first
    | (go_ret; exact ⟨rfl, (Below.refl _ _).alloc (Nat.le_refl _) _⟩)
    | go_wall
/-- One of them by value. -/
def StationV (v : Value) (s : GStation) : Prop := v = .agg #[.int .i64 s.pId, .string s.pName, .int .i64 s.pX, .int .i64 s.pY, .int .i64 s.pGain, .int .i64 s.pLow, .int .i64 s.pHigh, .int .i64 s.pUntil]
set_option maxHeartbeats 800000 in
theorem toStation_any (s : GStation) (w : World) :
    Calls Try.prog 53 #[.agg #[.int .i64 s.pId, .string s.pName, .int .i64 s.pX, .int .i64 s.pY, .int .i64 s.pGain, .int .i64 s.pLow, .int .i64 s.pHigh, .int .i64 s.pUntil]] w fun e w' => e = .returned (.agg #[.int .i64 s.pId, .string s.pName, .int .i64 s.pX, .int .i64 s.pY, .int .i64 s.pGain, .int .i64 s.pLow, .int .i64 s.pHigh, .int .i64 s.pUntil]) ∧ Below w.heap.size w w' := by
  go_enter Try.func53, Try.ntmps53
  go_wp2
  refine bodyPost_ret (v := .agg #[.int .i64 s.pId, .string s.pName, .int .i64 s.pX, .int .i64 s.pY, .int .i64 s.pGain, .int .i64 s.pLow, .int .i64 s.pHigh, .int .i64 s.pUntil]) (by simp [results, Try.results53, go_sem]) rfl ⟨rfl, ?_⟩
  first
    | exact (((Below.refl _ w).alloc (Nat.le_refl _) _).alloc (by first | omega | (simp; done) | (simp; omega)) _).alloc (by first | omega | (simp; done) | (simp; omega)) _
    | (repeat (first | exact (((Below.refl _ w).alloc (Nat.le_refl _) _).alloc (by first | omega | (simp; done) | (simp; omega)) _).alloc (by first | omega | (simp; done) | (simp; omega)) _ | (refine Below.setCell ?_ (by first | omega | (simp; done) | (simp; omega)) _)))
theorem info_Station : (Try.prog.info? 60).map (fun i => (i.zero, i.size, i.bytes)) = some (some (.agg #[.int .i64 0, .string .empty, .int .i64 0, .int .i64 0, .int .i64 0, .int .i64 0, .int .i64 0, .int .i64 0]), 8, 72) := by kernel_rfl
def mkStation (k : Int) : GStation := ⟨k, mark (k + 1), k + 1 + 1, k + 1 + 1 + 1, k + 1 + 1 + 1 + 1, k + 1 + 1 + 1 + 1 + 1, k + 1 + 1 + 1 + 1 + 1 + 1, k + 1 + 1 + 1 + 1 + 1 + 1 + 1⟩
def marksStation (k : Int) (n : Nat) : List GStation := (List.range n).map fun (i : Nat) => mkStation (k + 8 * i)
theorem marksStation_get {k : Int} {n i : Nat} (h : i < n) : (marksStation k n)[i]? = some (mkStation (k + 8 * i)) := by simp [marksStation, h]
theorem marksStation_len (k : Int) (n : Nat) : (marksStation k n).length = n := by simp [marksStation]
theorem eq_marksStation {k : Int} {n : Nat} {cs : List GStation} (hl : cs.length = n) (h : ∀ i, i < n → cs[i]? = some (mkStation (k + 8 * i))) : cs = marksStation k n := by
  apply List.ext_getElem?
  intro i
  by_cases hi : i < n
  · rw [h i hi, marksStation_get hi]
  · rw [List.getElem?_eq_none (by omega), List.getElem?_eq_none (by rw [marksStation_len]; omega)]
theorem oneStation (xs : List GStation) : ∀ u ∈ xs.flatMap encStation, u.oneCell' = true := by
  intro u hu
  obtain ⟨x, _, hx⟩ := List.mem_flatMap.1 hu
  simp only [encStation, List.mem_cons, List.not_mem_nil, or_false] at hx
  rcases hx with rfl | rfl | rfl | rfl | rfl | rfl | rfl | rfl <;> rfl
theorem cloneStation (xs : List GStation) (v : Value) (w : World) (B : Nat) (h : StationL w B v xs) (hB : B ≤ w.heap.size) (hn : xs.length ≤ 1048576) :
    Calls Try.prog 98 #[v] w fun e w' => ∃ v', e = .returned v' ∧ StationO w' w.heap.size w'.heap.size v' xs ∧ Below w.heap.size w w' := by
  obtain ⟨ti, hi, hz0, hz1, hz2⟩ := info_parts info_Station
  have hrow := rowK_empty w (base := w.heap.size) 60 8 (Nat.le_refl _)
  have hnil := fun (W : World) (a : Option Addr) (l c : Nat) => Lib.run_eql_slice_nil (P := Try.prog) W 63 60 a l c 0 0 Try.underlying63
  rcases h.split encStation_len (by omega) with ⟨rfl, rfl⟩ | ⟨a, cap, rfl, _, _, hc⟩
  · go_enter Try.func98, Try.ntmps98
    go_wp2
    go_ret
    exact ⟨_, rfl, OwnK.of_row encStation_len (by omega) (World.ownsRow_nil _ _ 60 8), Below.refl _ _⟩
  · have HC := Lib.hid (fun j u (hu : (xs.flatMap encStation)[j]? = some u) => (((Below.refl B w).alloc hB (.cells #[] 60)).cell (hc j u hu).1).trans (hc j u hu).2)
    have H1 := Lib.hid (oneStation xs)
    have HL : Hid ((xs.flatMap encStation).length = xs.length * 8) := Lib.hid (flat_len encStation_len xs)
    clear hc h
    go_enter Try.func98, Try.ntmps98
    go_wp2_with (at_builtin; refine wpList_append_own _ rfl _ _ 63 rfl w.heap.size 60 ti (.agg #[.int .i64 0, .string .empty, .int .i64 0, .int .i64 0, .int .i64 0, .int .i64 0, .int .i64 0, .int .i64 0]) 8 72 Try.underlying63 hi hz0 hz1 hz2 rfl (by decide) _ 0 [] rfl hrow a xs.length _ (xs.flatMap encStation) rfl HL.out HC.out H1.out (by unfold maxLen; omega) (by omega) (by simp) ?_; intro v' w1 hown hg _)
    go_ret
    have ho : w1.ownsRow w.heap.size 60 8 v' xs.length (xs.flatMap encStation) := by simpa using hown
    exact ⟨_, rfl, OwnK.of_row encStation_len (by omega) ho, below_appK hg (by intro g e; cases e; exact Nat.le_refl _)⟩
def wfStation (s : GStation) : Prop := I64 s.pId ∧ (s.pName.size : Int) ≤ 9223372036854775807 ∧ I64 s.pX ∧ I64 s.pY ∧ I64 s.pGain ∧ I64 s.pLow ∧ I64 s.pHigh ∧ I64 s.pUntil
set_option maxRecDepth 100000 in
theorem cells_Station {H : Type} {enc : TypeId × Value → H} {w : World} (n : Nat) (cs : List Value) (x : DataW H × List MemPlace) (h : DataW.trod enc Try.prog w 0 (fun _ => true) true n 57 cs = some x) : ∃ s, cs = encStation s ∧ wfStation s := by
  obtain ⟨ys, m, _, _, hlen, hyl, hf⟩ := DataW.trod_struct Try.underlying57 h
  have hlen : cs.length = 8 := hlen.trans (by kernel_rfl)
  obtain ⟨c0, y0, e0, t0⟩ := field_cell (by kernel_rfl) hlen hyl hf 0 _ rfl
  obtain ⟨a0, g0, _, b0⟩ := DataW.trod_int Try.underlying3 t0
  simp only [List.cons.injEq, and_true] at g0
  subst g0
  obtain ⟨c1, y1, e1, t1⟩ := field_cell (by kernel_rfl) hlen hyl hf 1 _ rfl
  obtain ⟨a1, g1, _, b1⟩ := DataW.trod_string Try.underlying9 t1
  simp only [List.cons.injEq, and_true] at g1
  subst g1
  obtain ⟨c2, y2, e2, t2⟩ := field_cell (by kernel_rfl) hlen hyl hf 2 _ rfl
  obtain ⟨a2, g2, _, b2⟩ := DataW.trod_int Try.underlying3 t2
  simp only [List.cons.injEq, and_true] at g2
  subst g2
  obtain ⟨c3, y3, e3, t3⟩ := field_cell (by kernel_rfl) hlen hyl hf 3 _ rfl
  obtain ⟨a3, g3, _, b3⟩ := DataW.trod_int Try.underlying3 t3
  simp only [List.cons.injEq, and_true] at g3
  subst g3
  obtain ⟨c4, y4, e4, t4⟩ := field_cell (by kernel_rfl) hlen hyl hf 4 _ rfl
  obtain ⟨a4, g4, _, b4⟩ := DataW.trod_int Try.underlying3 t4
  simp only [List.cons.injEq, and_true] at g4
  subst g4
  obtain ⟨c5, y5, e5, t5⟩ := field_cell (by kernel_rfl) hlen hyl hf 5 _ rfl
  obtain ⟨a5, g5, _, b5⟩ := DataW.trod_int Try.underlying3 t5
  simp only [List.cons.injEq, and_true] at g5
  subst g5
  obtain ⟨c6, y6, e6, t6⟩ := field_cell (by kernel_rfl) hlen hyl hf 6 _ rfl
  obtain ⟨a6, g6, _, b6⟩ := DataW.trod_int Try.underlying3 t6
  simp only [List.cons.injEq, and_true] at g6
  subst g6
  obtain ⟨c7, y7, e7, t7⟩ := field_cell (by kernel_rfl) hlen hyl hf 7 _ rfl
  obtain ⟨a7, g7, _, b7⟩ := DataW.trod_int Try.underlying3 t7
  simp only [List.cons.injEq, and_true] at g7
  subst g7
  refine ⟨⟨a0, a1, a2, a3, a4, a5, a6, a7⟩, ?_, bounds_i64 b0, (by unfold maxLen at b1; show (a1.size : Int) ≤ 9223372036854775807; omega), bounds_i64 b2, bounds_i64 b3, bounds_i64 b4, bounds_i64 b5, bounds_i64 b6, bounds_i64 b7⟩
  apply List.ext_getElem?
  intro i
  match i with
  | 0 => exact e0
  | 1 => exact e1
  | 2 => exact e2
  | 3 => exact e3
  | 4 => exact e4
  | 5 => exact e5
  | 6 => exact e6
  | 7 => exact e7
  | i + 8 => rw [List.getElem?_eq_none (by omega), List.getElem?_eq_none (by rw [encStation_len]; omega)]
/-- One of them, by value. -/
def StationVL (_ : World) (_ : Nat) (v : Value) (s : GStation) : Prop := v = .agg #[.int .i64 s.pId, .string s.pName, .int .i64 s.pX, .int .i64 s.pY, .int .i64 s.pGain, .int .i64 s.pLow, .int .i64 s.pHigh, .int .i64 s.pUntil]
def StationVO (_ : World) (_ _ : Nat) (v : Value) (s : GStation) : Prop := v = .agg #[.int .i64 s.pId, .string s.pName, .int .i64 s.pX, .int .i64 s.pY, .int .i64 s.pGain, .int .i64 s.pLow, .int .i64 s.pHigh, .int .i64 s.pUntil]
theorem StationVO.lst {w : World} {L B : Nat} {v : Value} {s : GStation} (h : StationVO w L B v s) : StationVL w B v s := h
theorem StationVL.below {w w' : World} {B : Nat} {v : Value} {s : GStation} (h : StationVL w B v s) (_ : Below B w w') : StationVL w' B v s := h
theorem StationVL.mono {w : World} {B B' : Nat} {v : Value} {s : GStation} (h : StationVL w B v s) (_ : B ≤ B') : StationVL w B' v s := h
theorem StationVO.below {w w' : World} {L B : Nat} {v : Value} {s : GStation} (h : StationVO w L B v s) (_ : Below B w w') : StationVO w' L B v s := h
theorem StationVO.mono {w : World} {L B L' B' : Nat} {v : Value} {s : GStation} (h : StationVO w L B v s) (_ : L' ≤ L) (_ : B ≤ B') : StationVO w L' B' v s := h
theorem StationVO.high {w w' : World} {L B L' U' : Nat} {v : Value} {s : GStation} (h : StationVO w L B v s) (_ : Upd L' U' w w') (_ : U' ≤ L) : StationVO w' L B v s := h
theorem StationVL.form {w : World} {B : Nat} {v : Value} {s : GStation} (h : StationVL w B v s) : v = .agg #[.int .i64 s.pId, .string s.pName, .int .i64 s.pX, .int .i64 s.pY, .int .i64 s.pGain, .int .i64 s.pLow, .int .i64 s.pHigh, .int .i64 s.pUntil] := h
theorem StationVO.form {w : World} {L B : Nat} {v : Value} {s : GStation} (h : StationVO w L B v s) : v = .agg #[.int .i64 s.pId, .string s.pName, .int .i64 s.pX, .int .i64 s.pY, .int .i64 s.pGain, .int .i64 s.pLow, .int .i64 s.pHigh, .int .i64 s.pUntil] := h
set_option maxRecDepth 100000 in
theorem open_Station {H : Type} {enc : TypeId × Value → H} {w : World} {base : Nat} {v : Value} {d : DataW H} {ps : List MemPlace}
    (hval : Value.okWide Try.prog w .any base 57 v) (hd : DataW.Trod enc Try.prog w 0 (fun _ => true) true 57 v d ps) : ∃ s : GStation, StationVL w w.heap.size v s ∧ wfStation s := by
  obtain ⟨cs, rfl, hsz⟩ := okWide_struct Try.underlying57 hval
  obtain ⟨fuel, hf⟩ := hd
  obtain ⟨s, h, hw⟩ := cells_Station _ _ _ hf
  refine ⟨s, ?_, hw⟩
  obtain ⟨l⟩ := cs
  have h : l = encStation s := h
  subst h
  rfl
theorem sz_Station (s : GStation) (v : Value) (left : Int) (w : World) (B : Nat) (h : StationVL w B v s) (_ : B ≤ w.heap.size) (h0 : 0 ≤ left) (h1 : left ≤ 1048576) (ht : (sz1Station s : Int) ≤ left) :
    Calls Try.prog 51 #[v, .int .i64 left] w fun e w' => e = .returned (.int .i64 (left - sz1Station s)) ∧ Below w.heap.size w w' := by
  obtain rfl := h.form
  exact szStation_le0 s left w h0 h1 ht
theorem szgt_Station (s : GStation) (v : Value) (left : Int) (w : World) (B : Nat) (h : StationVL w B v s) (_ : B ≤ w.heap.size) (h0 : 0 ≤ left) (h1 : left ≤ 1048576) (ht : left < (sz1Station s : Int)) (hw : wfStation s) :
    Calls Try.prog 51 #[v, .int .i64 left] w fun e w' => e = .returned (.int .i64 (-1)) ∧ Below w.heap.size w w' := by
  obtain rfl := h.form
  exact szStation_gt0 s left w h0 h1 hw.2.1 ht
theorem to_Station (s : GStation) (v : Value) (w : World) (B : Nat) (h : StationVL w B v s) (_ : B ≤ w.heap.size) (_ : sz1Station s ≤ 1048576) :
    Calls Try.prog 53 #[v] w fun e w' => ∃ v', e = .returned v' ∧ StationVO w' w.heap.size w'.heap.size v' s ∧ Below w.heap.size w w' := by
  obtain rfl := h.form
  exact (toStation_any s w).mono fun e w' ⟨h1, h2⟩ => ⟨_, h1, rfl, h2⟩
end Go.Proofs.Ytklilfbokpljkab
