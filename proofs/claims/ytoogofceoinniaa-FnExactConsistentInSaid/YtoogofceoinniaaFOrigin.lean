/- Origin: what it reads as; the laws' helpers on it and on slices of it. -/
import Derived.Test.YtoogofceoinniaaFlat
import Derived.Handy
import Derived.Deep.Slices
import Derived.Deep.Fields
namespace Go.Proofs.Ytoogofceoinniaa
open Go.ChangeShapes Go.WideShapes Go.ChangeAt Go.RowKit Go.ChangeMaps
set_option linter.unusedSimpArgs false
set_option linter.unusedVariables false

structure GOrigin where
  pX : Int
  pY : Int
  pTick : Int
def encOrigin (s : GOrigin) : List Value := [.int .i64 s.pX, .int .i64 s.pY, .int .i64 s.pTick]
theorem encOrigin_len : ∀ s, (encOrigin s).length = 3 := fun _ => rfl
def zeroOrigin : GOrigin := ⟨0, 0, 0⟩
abbrev OriginL (w : World) (B : Nat) (v : Value) (xs : List GOrigin) : Prop := LstK encOrigin 3 w B v xs
abbrev OriginO (w : World) (L B : Nat) (v : Value) (xs : List GOrigin) : Prop := OwnK encOrigin 3 w L B v xs
def sz1Origin (s : GOrigin) : Nat := 0
def szsOrigin (xs : List GOrigin) : Nat := (xs.map fun s => 1 + sz1Origin s).sum
theorem szsOrigin_len (xs : List GOrigin) : xs.length ≤ szsOrigin xs := by
  unfold szsOrigin
  induction xs with
  | nil => simp
  | cons a l ih => simp only [List.map_cons, List.sum_cons, List.length_cons]; omega
theorem szsOrigin_mem {xs : List GOrigin} {s : GOrigin} (h : s ∈ xs) : sz1Origin s ≤ szsOrigin xs := by
  unfold szsOrigin
  induction xs with
  | nil => simp at h
  | cons a l ih =>
    simp only [List.map_cons, List.sum_cons]
    rcases List.mem_cons.1 h with rfl | h
    · omega
    · have := ih h; omega
theorem szsOrigin_split (xs : List GOrigin) : szsOrigin xs = xs.length := by
  unfold szsOrigin
  induction xs with
  | nil => simp
  | cons a l ih => rw [List.map_cons, List.sum_cons, List.length_cons, ih]; unfold sz1Origin; omega

/-- One of them by value. -/
def OriginV (v : Value) (s : GOrigin) : Prop := v = .agg #[.int .i64 s.pX, .int .i64 s.pY, .int .i64 s.pTick]
set_option maxHeartbeats 800000 in
theorem toOrigin_any (s : GOrigin) (w : World) :
    Calls Try.prog 32 #[.agg #[.int .i64 s.pX, .int .i64 s.pY, .int .i64 s.pTick]] w fun e w' => e = .returned (.agg #[.int .i64 s.pX, .int .i64 s.pY, .int .i64 s.pTick]) ∧ Below w.heap.size w w' := by
  go_enter Try.func32, Try.ntmps32
  go_wp2
  refine bodyPost_ret (v := .agg #[.int .i64 s.pX, .int .i64 s.pY, .int .i64 s.pTick]) (by simp [results, Try.results32, go_sem]) rfl ⟨rfl, ?_⟩
  first
    | exact (((Below.refl _ w).alloc (Nat.le_refl _) _).alloc (by first | omega | (simp; done) | (simp; omega)) _).alloc (by first | omega | (simp; done) | (simp; omega)) _
    | (repeat (first | exact (((Below.refl _ w).alloc (Nat.le_refl _) _).alloc (by first | omega | (simp; done) | (simp; omega)) _).alloc (by first | omega | (simp; done) | (simp; omega)) _ | (refine Below.setCell ?_ (by first | omega | (simp; done) | (simp; omega)) _)))
theorem info_Origin : (Try.prog.info? 50).map (fun i => (i.zero, i.size, i.bytes)) = some (some (.agg #[.int .i64 0, .int .i64 0, .int .i64 0]), 3, 24) := by kernel_rfl
def mkOrigin (k : Int) : GOrigin := ⟨k, k + 1, k + 1 + 1⟩
def marksOrigin (k : Int) (n : Nat) : List GOrigin := (List.range n).map fun (i : Nat) => mkOrigin (k + 3 * i)
theorem marksOrigin_get {k : Int} {n i : Nat} (h : i < n) : (marksOrigin k n)[i]? = some (mkOrigin (k + 3 * i)) := by simp [marksOrigin, h]
theorem marksOrigin_len (k : Int) (n : Nat) : (marksOrigin k n).length = n := by simp [marksOrigin]
theorem eq_marksOrigin {k : Int} {n : Nat} {cs : List GOrigin} (hl : cs.length = n) (h : ∀ i, i < n → cs[i]? = some (mkOrigin (k + 3 * i))) : cs = marksOrigin k n := by
  apply List.ext_getElem?
  intro i
  by_cases hi : i < n
  · rw [h i hi, marksOrigin_get hi]
  · rw [List.getElem?_eq_none (by omega), List.getElem?_eq_none (by rw [marksOrigin_len]; omega)]
theorem oneOrigin (xs : List GOrigin) : ∀ u ∈ xs.flatMap encOrigin, u.oneCell' = true := by
  intro u hu
  obtain ⟨x, _, hx⟩ := List.mem_flatMap.1 hu
  simp only [encOrigin, List.mem_cons, List.not_mem_nil, or_false] at hx
  rcases hx with rfl | rfl | rfl <;> rfl
def wfOrigin (s : GOrigin) : Prop := I64 s.pX ∧ I64 s.pY ∧ I64 s.pTick
set_option maxRecDepth 100000 in
theorem cells_Origin {H : Type} {enc : TypeId × Value → H} {w : World} (n : Nat) (cs : List Value) (x : DataW H × List MemPlace) (h : DataW.trod enc Try.prog w 0 (fun _ => true) true n 48 cs = some x) : ∃ s, cs = encOrigin s ∧ wfOrigin s := by
  obtain ⟨ys, m, _, _, hlen, hyl, hf⟩ := DataW.trod_struct Try.underlying48 h
  have hlen : cs.length = 3 := hlen.trans (by kernel_rfl)
  obtain ⟨c0, y0, e0, t0⟩ := field_cell (by kernel_rfl) hlen hyl hf 0 _ rfl
  obtain ⟨a0, g0, _, b0⟩ := DataW.trod_int Try.underlying3 t0
  simp only [List.cons.injEq, and_true] at g0
  subst g0
  obtain ⟨c1, y1, e1, t1⟩ := field_cell (by kernel_rfl) hlen hyl hf 1 _ rfl
  obtain ⟨a1, g1, _, b1⟩ := DataW.trod_int Try.underlying3 t1
  simp only [List.cons.injEq, and_true] at g1
  subst g1
  obtain ⟨c2, y2, e2, t2⟩ := field_cell (by kernel_rfl) hlen hyl hf 2 _ rfl
  obtain ⟨a2, g2, _, b2⟩ := DataW.trod_int Try.underlying3 t2
  simp only [List.cons.injEq, and_true] at g2
  subst g2
  refine ⟨⟨a0, a1, a2⟩, ?_, bounds_i64 b0, bounds_i64 b1, bounds_i64 b2⟩
  apply List.ext_getElem?
  intro i
  match i with
  | 0 => exact e0
  | 1 => exact e1
  | 2 => exact e2
  | i + 3 => rw [List.getElem?_eq_none (by omega), List.getElem?_eq_none (by rw [encOrigin_len]; omega)]
/-- One of them, by value. -/
def OriginVL (_ : World) (_ : Nat) (v : Value) (s : GOrigin) : Prop := v = .agg #[.int .i64 s.pX, .int .i64 s.pY, .int .i64 s.pTick]
def OriginVO (_ : World) (_ _ : Nat) (v : Value) (s : GOrigin) : Prop := v = .agg #[.int .i64 s.pX, .int .i64 s.pY, .int .i64 s.pTick]
theorem OriginVO.lst {w : World} {L B : Nat} {v : Value} {s : GOrigin} (h : OriginVO w L B v s) : OriginVL w B v s := h
theorem OriginVL.below {w w' : World} {B : Nat} {v : Value} {s : GOrigin} (h : OriginVL w B v s) (_ : Below B w w') : OriginVL w' B v s := h
theorem OriginVL.mono {w : World} {B B' : Nat} {v : Value} {s : GOrigin} (h : OriginVL w B v s) (_ : B ≤ B') : OriginVL w B' v s := h
theorem OriginVO.below {w w' : World} {L B : Nat} {v : Value} {s : GOrigin} (h : OriginVO w L B v s) (_ : Below B w w') : OriginVO w' L B v s := h
theorem OriginVO.mono {w : World} {L B L' B' : Nat} {v : Value} {s : GOrigin} (h : OriginVO w L B v s) (_ : L' ≤ L) (_ : B ≤ B') : OriginVO w L' B' v s := h
theorem OriginVO.high {w w' : World} {L B L' U' : Nat} {v : Value} {s : GOrigin} (h : OriginVO w L B v s) (_ : Upd L' U' w w') (_ : U' ≤ L) : OriginVO w' L B v s := h
theorem OriginVL.form {w : World} {B : Nat} {v : Value} {s : GOrigin} (h : OriginVL w B v s) : v = .agg #[.int .i64 s.pX, .int .i64 s.pY, .int .i64 s.pTick] := h
theorem OriginVO.form {w : World} {L B : Nat} {v : Value} {s : GOrigin} (h : OriginVO w L B v s) : v = .agg #[.int .i64 s.pX, .int .i64 s.pY, .int .i64 s.pTick] := h
set_option maxRecDepth 100000 in
theorem open_Origin {H : Type} {enc : TypeId × Value → H} {w : World} {base : Nat} {v : Value} {d : DataW H} {ps : List MemPlace}
    (hval : Value.okWide Try.prog w .any base 48 v) (hd : DataW.Trod enc Try.prog w 0 (fun _ => true) true 48 v d ps) : ∃ s : GOrigin, OriginVL w w.heap.size v s ∧ wfOrigin s := by
  obtain ⟨cs, rfl, hsz⟩ := okWide_struct Try.underlying48 hval
  obtain ⟨fuel, hf⟩ := hd
  obtain ⟨s, h, hw⟩ := cells_Origin _ _ _ hf
  refine ⟨s, ?_, hw⟩
  obtain ⟨l⟩ := cs
  have h : l = encOrigin s := h
  subst h
  rfl
theorem to_Origin (s : GOrigin) (v : Value) (w : World) (B : Nat) (h : OriginVL w B v s) (_ : B ≤ w.heap.size) (_ : sz1Origin s ≤ 1048576) :
    Calls Try.prog 32 #[v] w fun e w' => ∃ v', e = .returned v' ∧ OriginVO w' w.heap.size w'.heap.size v' s ∧ Below w.heap.size w w' := by
  obtain rfl := h.form
  exact (toOrigin_any s w).mono fun e w' ⟨h1, h2⟩ => ⟨_, h1, rfl, h2⟩
end Go.Proofs.Ytoogofceoinniaa
