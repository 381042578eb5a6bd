/- Slices whose elements take several cells each: what reads as a list of structs, what may be written. -/
import Derived.Test.YtoogofceoinniabBx
import Derived.Deep.Slices
import Derived.Deep.Fields
import Derived.ChangeSame
import Derived.Laws.AppendOwnNone
import Derived.Lib.LazyBuf
namespace Go.Proofs.Ytoogofceoinniab
open Go.ChangeShapes Go.WideShapes Go.ChangeAt Go.RowKit Go.ChangeMaps
set_option linter.unusedSimpArgs false
set_option linter.unusedVariables false

/-- A slice of structs of K cells, in blocks below B: the cells from its head on hold the list. -/
def LstK {α : Type} (en : α → List Value) (K : Nat) (w : World) (B : Nat) (v : Value) (xs : List α) : Prop :=
  ∃ ao cap, v = .slice ao xs.length cap ∧ xs.length ≤ cap ∧ cap ≤ maxLen ∧ (ao = none → cap = 0) ∧
    ∀ i x, xs[i]? = some x → ∃ b off, ao = some ⟨b, off, none⟩ ∧ b < B ∧ ∀ j c, (en x)[j]? = some c → w.cell? ⟨b, off + i * K + j, none⟩ = some c
theorem LstK.below {α : Type} {en : α → List Value} {K : Nat} {w w' : World} {B : Nat} {v : Value} {xs : List α} (h : LstK en K w B v xs) (hb : Below B w w') : LstK en K w' B v xs := by
  obtain ⟨ao, cap, h1, h2, h3, hn, h4⟩ := h
  exact ⟨ao, cap, h1, h2, h3, hn, fun i x hi => let ⟨b, off, e1, e2, e3⟩ := h4 i x hi; ⟨b, off, e1, e2, fun j c hj => (hb.cell (p := ⟨b, off + i * K + j, none⟩) e2).trans (e3 j c hj)⟩⟩
theorem LstK.mono {α : Type} {en : α → List Value} {K : Nat} {w : World} {B B' : Nat} {v : Value} {xs : List α} (h : LstK en K w B v xs) (hb : B ≤ B') : LstK en K w B' v xs := by
  obtain ⟨ao, cap, h1, h2, h3, hn, h4⟩ := h
  exact ⟨ao, cap, h1, h2, h3, hn, fun i x hi => let ⟨b, off, e1, e2, e3⟩ := h4 i x hi; ⟨b, off, e1, by omega, e3⟩⟩
theorem LstK.form {α : Type} {en : α → List Value} {K : Nat} {w : World} {B : Nat} {v : Value} {xs : List α} (h : LstK en K w B v xs) : ∃ ao cap, v = .slice ao xs.length cap := let ⟨ao, cap, h, _⟩ := h; ⟨ao, cap, h⟩
theorem LstK.nil {α : Type} (en : α → List Value) (K : Nat) (w : World) (B : Nat) : LstK en K w B (.slice none 0 0) [] := ⟨none, 0, rfl, by simp, by simp [maxLen], fun _ => rfl, fun i x hi => by simp at hi⟩

/-- The same, in blocks from number L on, its cells not frozen. -/
def OwnK {α : Type} (en : α → List Value) (K : Nat) (w : World) (L B : Nat) (v : Value) (xs : List α) : Prop :=
  ∃ ao cap, v = .slice ao xs.length cap ∧ xs.length ≤ cap ∧ cap ≤ maxLen ∧ (ao = none → cap = 0) ∧
    ∀ i x, xs[i]? = some x → ∃ b off, ao = some ⟨b, off, none⟩ ∧ L ≤ b ∧ b < B ∧ b < w.heap.size ∧ (∀ j c, (en x)[j]? = some c → w.cell? ⟨b, off + i * K + j, none⟩ = some c) ∧ ∀ o, w.frozen? ⟨b, o, none⟩ = false
theorem OwnK.lst {α : Type} {en : α → List Value} {K : Nat} {w : World} {L B : Nat} {v : Value} {xs : List α} (h : OwnK en K w L B v xs) : LstK en K w B v xs := by
  obtain ⟨ao, cap, h1, h2, h3, hn, h4⟩ := h
  exact ⟨ao, cap, h1, h2, h3, hn, fun i x hi => let ⟨b, off, e1, _, e2, _, e3, _⟩ := h4 i x hi; ⟨b, off, e1, e2, e3⟩⟩
theorem OwnK.kept {α : Type} {en : α → List Value} {K : Nat} {w w' : World} {L B : Nat} {v : Value} {xs : List α} (h : OwnK en K w L B v xs) (hz : w.heap.size ≤ w'.heap.size) (hb : ∀ b, L ≤ b → b < B → b < w.heap.size → w'.heap[b]? = w.heap[b]?) : OwnK en K w' L B v xs := by
  obtain ⟨ao, cap, h1, h2, h3, hn, h4⟩ := h
  refine ⟨ao, cap, h1, h2, h3, hn, fun i x hi => ?_⟩
  obtain ⟨b, off, e1, e0, e2, e5, e3, e4⟩ := h4 i x hi
  exact ⟨b, off, e1, e0, e2, Nat.lt_of_lt_of_le e5 hz, fun j c hj => (World.cell?_of_block (hb b e0 e2 e5)).trans (e3 j c hj), fun o => (World.frozen?_of_block (hb b e0 e2 e5)).trans (e4 o)⟩
theorem OwnK.below {α : Type} {en : α → List Value} {K : Nat} {w w' : World} {L B : Nat} {v : Value} {xs : List α} (h : OwnK en K w L B v xs) (hb : Below B w w') : OwnK en K w' L B v xs := h.kept hb.size fun b _ h2 _ => hb.block b h2
theorem OwnK.mono {α : Type} {en : α → List Value} {K : Nat} {w : World} {L B L' B' : Nat} {v : Value} {xs : List α} (h : OwnK en K w L B v xs) (h1 : L' ≤ L) (h2 : B ≤ B') : OwnK en K w L' B' v xs := by
  obtain ⟨ao, cap, g1, g2, g3, hn, h4⟩ := h
  refine ⟨ao, cap, g1, g2, g3, hn, fun i x hi => ?_⟩
  obtain ⟨b, off, e1, e0, e2, e3, e4⟩ := h4 i x hi
  exact ⟨b, off, e1, by omega, by omega, e3, e4⟩
theorem OwnK.high {α : Type} {en : α → List Value} {K : Nat} {w w' : World} {L B L' U' : Nat} {v : Value} {xs : List α} (h : OwnK en K w L B v xs) (hu : Upd L' U' w w') (hU : U' ≤ L) : OwnK en K w' L B v xs := h.kept hu.size fun b h1 _ h3 => hu.block b h3 (Or.inr (by omega))
theorem OwnK.setLow {α : Type} {en : α → List Value} {K : Nat} {w : World} {L B : Nat} {v : Value} {xs : List α} (h : OwnK en K w L B v xs) {p : Addr} (hp : p.block < L) (u : Value) : OwnK en K (w.setCell p u) L B v xs :=
  h.high (L' := p.block) (U' := p.block + 1) ((Upd.refl _ _ w).setCell (Nat.le_refl _) (Nat.lt_succ_self _) u) hp
theorem OwnK.alloc {α : Type} {en : α → List Value} {K : Nat} {w : World} {L B : Nat} {v : Value} {xs : List α} (h : OwnK en K w L B v xs) (o : Obj) : OwnK en K (w.alloc o) L B v xs :=
  h.high (L' := 0) (U' := 0) (Upd.of_below ((Below.refl _ w).alloc (Nat.le_refl _) o)) (Nat.zero_le _)
theorem OwnK.form {α : Type} {en : α → List Value} {K : Nat} {w : World} {L B : Nat} {v : Value} {xs : List α} (h : OwnK en K w L B v xs) : ∃ ao cap, v = .slice ao xs.length cap := let ⟨ao, cap, h, _⟩ := h; ⟨ao, cap, h⟩

theorem cells_far {K i k j m : Nat} (hj : j < K) (hm : m < K) (h : i ≠ k) : i * K + j ≠ k * K + m := by
  rcases Nat.lt_or_gt_of_ne h with h | h
  · have h1 : (i + 1) * K ≤ k * K := Nat.mul_le_mul_right K h
    rw [Nat.add_mul, Nat.one_mul] at h1
    omega
  · have h1 : (k + 1) * K ≤ i * K := Nat.mul_le_mul_right K h
    rw [Nat.add_mul, Nat.one_mul] at h1
    omega

/-- A store into one field of one element. -/
theorem OwnK.set {α : Type} {en : α → List Value} {K : Nat} (hK : ∀ x, (en x).length = K) {w : World} {L B : Nat} {v : Value} {xs : List α} (h : OwnK en K w L B v xs) {b off cap n i m : Nat} {x y : α} {u : Value} (hv : v = .slice (some ⟨b, off, none⟩) n cap) (hx : xs[i]? = some x)
    (hm : m < K) (hy : en y = (en x).set m u) : OwnK en K (w.setCell ⟨b, off + i * K + m, none⟩ u) L B v (xs.set i y) := by
  obtain ⟨ao, cap', h1, h2, h3, hn, h4⟩ := h
  rw [hv] at h1
  simp only [Value.slice.injEq] at h1
  obtain ⟨rfl, rfl, rfl⟩ := h1
  have hi : i < xs.length := (List.getElem?_eq_some_iff.1 hx).1
  refine ⟨some ⟨b, off, none⟩, cap, by rw [hv]; simp, by simpa using h2, h3, hn, fun k z hz => ?_⟩
  have hk : k < xs.length := by simpa using (List.getElem?_eq_some_iff.1 hz).1
  obtain ⟨z', hz'⟩ := get_of_lt hk
  obtain ⟨b', off', e1, e2, e3, e6, e4, e5⟩ := h4 k z' hz'
  simp only [Option.some.injEq, Addr.mk.injEq, and_true] at e1
  obtain ⟨rfl, rfl⟩ := e1
  refine ⟨b, off, rfl, e2, e3, by simpa [World.setCell] using e6, fun j c hj => ?_, fun o => by rw [World.frozen?_setCell]; exact e5 o⟩
  have hjK : j < K := by rw [← hK z]; exact (List.getElem?_eq_some_iff.1 hj).1
  by_cases hik : i = k
  · subst hik
    rw [List.getElem?_set_self hi] at hz
    cases hz
    rw [hx] at hz'
    cases hz'
    rw [hy] at hj
    by_cases hmj : m = j
    · subst hmj
      rw [List.getElem?_set_self (by rw [hK]; exact hm)] at hj
      cases hj
      obtain ⟨c', hc'⟩ := get_of_lt (l := en x) (k := m) (by rw [hK]; exact hm)
      exact World.cell?_setCell_same' _ _ _ (by rw [e4 m c' hc']; rfl)
    · rw [List.getElem?_set_ne hmj] at hj
      rw [← e4 j c hj]
      exact World.cell?_setCell_other _ _ _ _ (by first | omega | (simp; done) | (simp; omega))
  · rw [List.getElem?_set_ne hik] at hz
    rw [hz'] at hz
    cases hz
    rw [← e4 j c hj]
    have hf := cells_far (i := i) (k := k) hm hjK hik
    exact World.cell?_setCell_other _ _ _ _ (by first | omega | (simp; done) | (simp; omega))

theorem OwnK.at {α : Type} {en : α → List Value} {K : Nat} {w : World} {L B : Nat} {b off n cap : Nat} {xs : List α} (h : OwnK en K w L B (.slice (some ⟨b, off, none⟩) n cap) xs) {i : Nat} {x : α} (hx : xs[i]? = some x) :
    L ≤ b ∧ b < B ∧ b < w.heap.size ∧ (∀ j c, (en x)[j]? = some c → w.cell? ⟨b, off + i * K + j, none⟩ = some c) ∧ ∀ o, w.frozen? ⟨b, o, none⟩ = false := by
  obtain ⟨ao, cap', h1, _, _, _, h4⟩ := h
  simp only [Value.slice.injEq] at h1
  obtain ⟨rfl, -, -⟩ := h1
  obtain ⟨b', off', e1, e2, e3, e6, e4, e5⟩ := h4 i x hx
  simp only [Option.some.injEq, Addr.mk.injEq, and_true] at e1
  obtain ⟨rfl, rfl⟩ := e1
  exact ⟨e2, e3, e6, e4, e5⟩
theorem LstK.at {α : Type} {en : α → List Value} {K : Nat} {w : World} {B : Nat} {b off n cap : Nat} {xs : List α} (h : LstK en K w B (.slice (some ⟨b, off, none⟩) n cap) xs) {i : Nat} {x : α} (hx : xs[i]? = some x) :
    b < B ∧ (∀ j c, (en x)[j]? = some c → w.cell? ⟨b, off + i * K + j, none⟩ = some c) := by
  obtain ⟨ao, cap', h1, _, _, _, h4⟩ := h
  simp only [Value.slice.injEq] at h1
  obtain ⟨rfl, -, -⟩ := h1
  obtain ⟨b', off', e1, e2, e3⟩ := h4 i x hx
  simp only [Option.some.injEq, Addr.mk.injEq, and_true] at e1
  obtain ⟨rfl, rfl⟩ := e1
  exact ⟨e2, e3⟩
theorem get_set_self {α : Type} {l : List α} {i : Nat} {x y : α} (h : l[i]? = some x) : (l.set i y)[i]? = some y := List.getElem?_set_self (List.getElem?_eq_some_iff.1 h).1
theorem flat_get {α : Type} {en : α → List Value} {K : Nat} (hK : ∀ x, (en x).length = K) : ∀ (xs : List α) (i : Nat) (x : α), xs[i]? = some x → ∀ j, j < K → (xs.flatMap en)[i * K + j]? = (en x)[j]?
  | [], i, x, h, _, _ => by simp at h
  | a :: xs, 0, x, h, j, hj => by
    simp only [List.getElem?_cons_zero, Option.some.injEq] at h
    subst h
    rw [List.flatMap_cons, Nat.zero_mul, Nat.zero_add, List.getElem?_append_left (by rw [hK]; exact hj)]
  | a :: xs, i + 1, x, h, j, hj => by
    simp only [List.getElem?_cons_succ] at h
    rw [List.flatMap_cons, List.getElem?_append_right (by rw [hK, Nat.add_mul]; omega), hK]
    have e : (i + 1) * K + j - K = i * K + j := by rw [Nat.add_mul]; omega
    rw [e]
    exact flat_get hK xs i x h j hj
theorem flat_len {α : Type} {en : α → List Value} {K : Nat} (hK : ∀ x, (en x).length = K) : ∀ (xs : List α), (xs.flatMap en).length = xs.length * K
  | [] => by simp
  | a :: xs => by rw [List.flatMap_cons, List.length_append, hK, flat_len hK xs, List.length_cons, Nat.add_mul, Nat.one_mul]; omega
theorem OwnK.of_row {α : Type} {en : α → List Value} {K : Nat} (hK : ∀ x, (en x).length = K) (h0 : 0 < K) {w : World} {L : Nat} {e : TypeId} {v : Value} {n : Nat} {xs : List α} (h : w.ownsRow L e K v n (xs.flatMap en)) : OwnK en K w L w.heap.size v xs := by
  obtain ⟨hl, h⟩ := h
  rw [flat_len hK] at hl
  have hl : xs.length = n := Nat.eq_of_mul_eq_mul_right h0 hl
  subst hl
  rcases h with ⟨rfl, hn⟩ | ⟨g, cap, cur, rfl, hg, hh, hn, hc, hs, ht⟩
  · have : xs = [] := List.eq_nil_of_length_eq_zero (by omega)
    subst this
    exact ⟨none, 0, rfl, by simp, by simp [maxLen], fun _ => rfl, fun i x hi => by simp at hi⟩
  · refine ⟨some ⟨g, 0, none⟩, cap, rfl, by omega, hc, by simp, fun i x hi => ⟨g, 0, rfl, hg, (Array.getElem?_eq_some_iff.1 hh).1, (Array.getElem?_eq_some_iff.1 hh).1, fun j c hj => ?_, fun o => by simp [World.frozen?, hh]⟩⟩
    have hlt : i < xs.length := (List.getElem?_eq_some_iff.1 hi).1
    have hjK : j < K := by rw [← hK x]; exact (List.getElem?_eq_some_iff.1 hj).1
    have h2 := (flat_get hK xs i x hi j hjK).trans hj
    have hb : i * K + j < xs.length * K := by
      have : (i + 1) * K ≤ xs.length * K := Nat.mul_le_mul_right K hlt
      rw [Nat.add_mul, Nat.one_mul] at this
      omega
    rw [← ht, List.getElem?_take, if_pos hb] at h2
    simpa [World.cell?, hh] using h2
/-- Cells written one behind the other. -/
def putCells (w : World) (b ad : Nat) : List Value → Nat → World
  | [], _ => w
  | c :: cs, s => putCells (w.setCell ⟨b, ad + s, none⟩ c) b ad cs (s + 1)
theorem putCells_size (b ad : Nat) : ∀ (cs : List Value) (w : World) (s : Nat), (putCells w b ad cs s).heap.size = w.heap.size
  | [], _, _ => rfl
  | c :: cs, w, s => by rw [putCells, putCells_size b ad cs]; simp [World.setCell]
theorem putCells_frozen (b ad : Nat) : ∀ (cs : List Value) (w : World) (s : Nat) (p : Addr), (putCells w b ad cs s).frozen? p = w.frozen? p
  | [], _, _, _ => rfl
  | c :: cs, w, s, p => by rw [putCells, putCells_frozen b ad cs, World.frozen?_setCell]
theorem putCells_other (b ad : Nat) : ∀ (cs : List Value) (w : World) (s : Nat) (p : Addr), (p.block ≠ b ∨ p.off < ad + s ∨ ad + s + cs.length ≤ p.off) → (putCells w b ad cs s).cell? p = w.cell? p
  | [], _, _, _, _ => rfl
  | c :: cs, w, s, p, h => by
    rw [putCells, putCells_other b ad cs _ _ p (by simp only [List.length_cons] at h; omega)]
    refine World.cell?_setCell_other _ _ _ _ ?_
    intro e
    rw [← e] at h
    simp only [List.length_cons] at h
    omega
theorem putCells_at (b ad : Nat) : ∀ (cs : List Value) (w : World) (s : Nat), (∀ j, j < cs.length → (w.cell? ⟨b, ad + (s + j), none⟩).isSome = true) → ∀ j c, cs[j]? = some c → (putCells w b ad cs s).cell? ⟨b, ad + (s + j), none⟩ = some c
  | [], _, _, _, j, c, h => by simp at h
  | a :: cs, w, s, hsome, 0, c, h => by
    simp only [List.getElem?_cons_zero, Option.some.injEq] at h
    subst h
    rw [putCells, putCells_other b ad cs _ _ _ (Or.inr (Or.inl (by show ad + (s + 0) < _; omega)))]
    exact World.cell?_setCell_same' _ _ _ (hsome 0 (by simp))
  | a :: cs, w, s, hsome, j + 1, c, h => by
    simp only [List.getElem?_cons_succ] at h
    have e : s + (j + 1) = s + 1 + j := by omega
    rw [putCells, e]
    refine putCells_at b ad cs _ _ (fun i hi => ?_) j c h
    have h1 := hsome (i + 1) (by first | omega | (simp; done) | (simp; omega))
    have e1 : s + (i + 1) = s + 1 + i := by omega
    rw [e1] at h1
    rw [World.cell?_setCell_other _ _ _ _ (by first | omega | (simp; done) | (simp; omega))]
    exact h1
theorem below_putCells {B : Nat} {a w : World} (h : Below B a w) {b : Nat} (hb : B ≤ b) (ad : Nat) : ∀ (cs : List Value) (s : Nat), Below B a (putCells w b ad cs s) := by
  intro cs
  induction cs generalizing w with
  | nil => intro s; exact h
  | cons c cs ih => intro s; exact ih (h.setCell (p := ⟨b, ad + s, none⟩) hb c) (s + 1)
/-- A whole element is written. -/
theorem OwnK.put {α : Type} {en : α → List Value} {K : Nat} (hK : ∀ x, (en x).length = K) {w : World} {L B : Nat} {v : Value} {xs : List α} (h : OwnK en K w L B v xs) {b off cap n i ad : Nat} {x : α} (hv : v = .slice (some ⟨b, off, none⟩) n cap) (hx : xs[i]? = some x)
    (had : ad = off + i * K) (y : α) : OwnK en K (putCells w b ad (en y) 0) L B v (xs.set i y) := by
  subst had
  obtain ⟨ao, cap', h1, h2, h3, hn, h4⟩ := h
  rw [hv] at h1
  simp only [Value.slice.injEq] at h1
  obtain ⟨rfl, rfl, rfl⟩ := h1
  have hi : i < xs.length := (List.getElem?_eq_some_iff.1 hx).1
  refine ⟨some ⟨b, off, none⟩, cap, by rw [hv]; simp, by simpa using h2, h3, hn, fun k z hz => ?_⟩
  have hk : k < xs.length := by simpa using (List.getElem?_eq_some_iff.1 hz).1
  obtain ⟨z', hz'⟩ := get_of_lt hk
  obtain ⟨b', off', e1, e2, e3, e6, e4, e5⟩ := h4 k z' hz'
  simp only [Option.some.injEq, Addr.mk.injEq, and_true] at e1
  obtain ⟨rfl, rfl⟩ := e1
  refine ⟨b, off, rfl, e2, e3, by rw [putCells_size]; exact e6, fun j c hj => ?_, fun o => by rw [putCells_frozen]; exact e5 o⟩
  have hjK : j < K := by rw [← hK z]; exact (List.getElem?_eq_some_iff.1 hj).1
  by_cases hik : i = k
  · subst hik
    rw [List.getElem?_set_self hi] at hz
    cases hz
    rw [hx] at hz'
    cases hz'
    have := putCells_at b (off + i * K) (en y) w 0 (fun m hm => by
      obtain ⟨c', hc'⟩ := get_of_lt (l := en x) (k := m) (by rw [hK]; rw [hK] at hm; exact hm)
      rw [Nat.zero_add, e4 m c' hc']; rfl) j c hj
    rwa [Nat.zero_add] at this
  · rw [List.getElem?_set_ne hik] at hz
    rw [hz'] at hz
    cases hz
    rw [← e4 j c hj]
    refine putCells_other b _ _ _ _ _ (Or.inr ?_)
    rw [hK]
    show off + k * K + j < off + i * K + 0 ∨ off + i * K + 0 + K ≤ off + k * K + j
    rcases Nat.lt_or_gt_of_ne hik with h | h
    · have h1 : (i + 1) * K ≤ k * K := Nat.mul_le_mul_right K h
      rw [Nat.add_mul, Nat.one_mul] at h1
      omega
    · have h1 : (k + 1) * K ≤ i * K := Nat.mul_le_mul_right K h
      rw [Nat.add_mul, Nat.one_mul] at h1
      omega
theorem made_flat {α : Type} {en : α → List Value} {K : Nat} (hK : ∀ x, (en x).length = K) (h0 : 0 < K) (z : Array Value) (x : α) (hz : z.toList = en x) (n : Nat) : (madeCells z (n * K)).toList = (List.replicate n x).flatMap en := by
  have hs : z.size = K := by rw [← Array.length_toList, hz, hK]
  apply List.ext_getElem?
  intro i
  by_cases hi : i < n * K
  · have hq : i / K < n := Nat.div_lt_of_lt_mul (by rw [Nat.mul_comm]; exact hi)
    have hr : i % K < K := Nat.mod_lt _ h0
    have e : i = i / K * K + i % K := by rw [Nat.mul_comm]; exact (Nat.div_add_mod i K).symm
    have h1 := flat_get hK (List.replicate n x) (i / K) x (by simp [hq]) (i % K) hr
    rw [← e] at h1
    rw [h1]
    have h2 : (madeCells z (n * K)).toList[i]? = some (z[i % z.size]!) := by
      simp [madeCells, hi]
    rw [h2, hs, ← hz]
    simp [hr, hs]
  · rw [List.getElem?_eq_none (by simp [size_madeCells]; omega), List.getElem?_eq_none (by rw [flat_len hK]; simp; omega)]
/-- A list's cells, one behind the other. -/
theorem LstK.split {α : Type} {en : α → List Value} {K : Nat} (hK : ∀ x, (en x).length = K) (h0 : 0 < K) {w : World} {B : Nat} {v : Value} {xs : List α} (h : LstK en K w B v xs) :
    (v = .slice none 0 0 ∧ xs = []) ∨ ∃ a cap, v = .slice (some a) xs.length cap ∧ xs.length ≤ cap ∧ cap ≤ maxLen ∧ ∀ j u, (xs.flatMap en)[j]? = some u → (a.add j).block < B ∧ w.cell? (a.add j) = some u := by
  obtain ⟨ao, cap, rfl, h2, h3, hn, h4⟩ := h
  cases ao with
  | none =>
    have e := hn rfl
    subst e
    have : xs = [] := List.eq_nil_of_length_eq_zero (by omega)
    subst this
    exact Or.inl ⟨rfl, rfl⟩
  | some a =>
    refine Or.inr ⟨a, cap, rfl, h2, h3, fun j u hu => ?_⟩
    have hj : j < xs.length * K := by
      have := (List.getElem?_eq_some_iff.1 hu).1
      rwa [flat_len hK] at this
    have hq : j / K < xs.length := Nat.div_lt_of_lt_mul (by rw [Nat.mul_comm]; exact hj)
    have hr : j % K < K := Nat.mod_lt _ h0
    have e : j = j / K * K + j % K := by rw [Nat.mul_comm]; exact (Nat.div_add_mod j K).symm
    obtain ⟨x, hx⟩ := get_of_lt hq
    have h1 := flat_get hK xs (j / K) x hx (j % K) hr
    rw [← e, hu] at h1
    obtain ⟨b, off, e1, e2, e3⟩ := h4 _ x hx
    cases e1
    rw [Addr.add_lit]
    refine ⟨e2, ?_⟩
    have := e3 (j % K) u h1.symm
    rwa [Nat.add_assoc, ← e] at this
theorem rowK_empty (w : World) {base : Nat} (e : TypeId) (size : Nat) (h : base ≤ w.heap.size) : (w.alloc (.cells #[] e)).ownsRow base e size (.slice (some ⟨w.heap.size, 0, none⟩) 0 0) 0 [] := World.ownsRow_made w #[] 0 h (by simp [maxLen]) (by simp)
theorem ownK_empty {α : Type} {en : α → List Value} {K : Nat} (hK : ∀ x, (en x).length = K) (h0 : 0 < K) (w : World) {L : Nat} (e : TypeId) (h : L ≤ w.heap.size) : OwnK en K (w.alloc (.cells #[] e)) L (w.alloc (.cells #[] e)).heap.size (.slice (some ⟨w.heap.size, 0, none⟩) 0 0) [] := OwnK.of_row hK h0 (rowK_empty w e K h)
theorem below_appK {w w' : World} {o : Obj} {v : Value} (h : (w.alloc o).grownBy w' v.ownBlock) (hv : ∀ g, v.ownBlock = some g → w.heap.size ≤ g) : Below w.heap.size w w' :=
  ((Below.refl _ w).alloc (Nat.le_refl _) o).grown h (by simp) hv
/-- One field's cell, out of a struct that reads. -/
theorem field_cell {H : Type} {enc : TypeId × Value → H} {P : Program} {w : World} {base : Nat} {spare : Nat → Bool} {held : Bool} {fs : Array Field} (hone : Go.Deep.oneCellFields P fs = true) {cs : List Value} {ys : List (DataW H × List MemPlace)} {n : Nat} (hlen : cs.length = fs.size) (hyl : ys.length = fs.size)
    (hf : ∀ (i : Nat) (f : Field), fs[i]? = some f → DataW.trod enc P w base spare held n f.type ((cs.drop f.offset).take (P.cellsOf f.type)) = ys[i]?) (j : Nat) (f : Field) (hj : fs[j]? = some f) :
    ∃ c y, cs[j]? = some c ∧ DataW.trod enc P w base spare held n f.type [c] = some y := by
  have hlt : j < fs.size := (Array.getElem?_eq_some_iff.1 hj).1
  obtain ⟨ho, hk⟩ := Go.Deep.hone_of hone j f hj
  obtain ⟨c, hc⟩ := get_of_lt (l := cs) (k := j) (by omega)
  obtain ⟨y, hy⟩ := get_of_lt (l := ys) (k := j) (by omega)
  have h1 := hf j f hj
  have h2 : (cs.drop j).take 1 = [c] := by
    apply List.ext_getElem?
    intro i
    rw [List.getElem?_take, List.getElem?_drop]
    match i with
    | 0 => simp [hc]
    | i + 1 => simp
  rw [ho, hk, h2, hy] at h1
  exact ⟨c, y, hc, h1⟩
/-- A slice of structs that reads. -/
theorem rows_of {H : Type} {enc : TypeId × Value → H} {P : Program} {w : World} {base : Nat} {α : Type} (en : α → List Value) (K : Nat) (hK : ∀ x, (en x).length = K) (h0 : 0 < K) (wf : α → Prop) {t e : TypeId} {v : Value} {d : DataW H} {ps : List MemPlace}
    (ht : P.underlying t = some (.slice e)) (hc : P.cellsOf e = K)
    (helem : ∀ (n : Nat) (cs : List Value) (x : DataW H × List MemPlace), DataW.trod enc P w 0 (fun _ => true) true n e cs = some x → ∃ s, cs = en s ∧ wf s)
    (hval : Value.okWide P w .any base t v) (hd : DataW.Trod enc P w 0 (fun _ => true) true t v d ps) : ∃ xs : List α, LstK en K w w.heap.size v xs ∧ ∀ x ∈ xs, wf x := by
  obtain ⟨a0, len, cap, rfl⟩ := okWide_slice ht hval
  obtain ⟨fuel, hf⟩ := hd
  rcases Go.Deep.open_slice ht hf with ⟨hcs, _⟩ | ⟨a, len', cap', m, n, D, Pl, hcs, _, hl, hm, hmm, _, hi⟩
  · simp [Value.cells] at hcs
    obtain ⟨rfl, rfl, rfl⟩ := hcs
    exact ⟨[], LstK.nil _ _ _ _, by simp⟩
  · simp [Value.cells] at hcs
    obtain ⟨rfl, rfl, rfl⟩ := hcs
    simp only [if_true] at hmm
    rw [hmm] at hi
    have hch : ∀ i : Fin len, ∃ s, wf s ∧ ∀ j c, (en s)[j]? = some c → w.cell? ((a.add (i.1 * K)).add j) = some c := fun i => by
      obtain ⟨cs', h1, h2⟩ := hi i.1 (by omega)
      obtain ⟨s, rfl, hw⟩ := helem _ _ _ h2
      rw [hc] at h1
      obtain ⟨_, _, h3⟩ := World.cells?_some h1
      exact ⟨s, hw, fun j c hj => (h3 j (by rw [← hK s]; exact (List.getElem?_eq_some_iff.1 hj).1)).trans hj⟩
    refine ⟨List.ofFn fun i => Classical.choose (hch i), ⟨some a, cap, by simp, by simpa using hl, hm, by simp, fun i x hx => ?_⟩, fun x hx => ?_⟩
    · have hlt : i < len := by simpa using (List.getElem?_eq_some_iff.1 hx).1
      have hxe : x = Classical.choose (hch ⟨i, hlt⟩) := by
        rw [List.getElem?_ofFn] at hx
        simp [hlt] at hx
        exact hx.symm
      have hs := (Classical.choose_spec (hch ⟨i, hlt⟩)).2
      rw [← hxe] at hs
      obtain ⟨b, off, spot⟩ := a
      obtain ⟨c0, hc0⟩ := get_of_lt (l := en x) (k := 0) (by rw [hK]; exact h0)
      have g0 := hs 0 c0 hc0
      have hspot : spot = none := by
        obtain ⟨s1, _, hs1⟩ := hch ⟨0, by omega⟩
        obtain ⟨c1, hc1⟩ := get_of_lt (l := en s1) (k := 0) (by rw [hK]; exact h0)
        have g1 := hs1 0 c1 hc1
        simpa [Addr.add] using World.cell?_spot g1
      subst hspot
      rw [Addr.add_lit, Addr.add_lit] at g0
      refine ⟨b, off, rfl, ?_, fun j c hj => ?_⟩
      · exact cell_of_lt g0
      · have := hs j c hj
        rw [Addr.add_lit, Addr.add_lit] at this
        exact this
    · obtain ⟨i, hx⟩ := List.mem_ofFn.1 hx
      rw [← hx]
      exact (Classical.choose_spec (hch i)).1
/-- A variable in memory: one of its cells is written. -/
theorem Bx.set {w : World} {b : Nat} {cs : List Value} (h : Bx w b cs) (m : Nat) (hm : m < cs.length) (u : Value) : Bx (w.setCell ⟨b, m, none⟩ u) b (cs.set m u) := by
  refine ⟨⟨by simpa [World.setCell] using h.1.1, fun i => by rw [World.frozen?_setCell]; exact h.1.2 i⟩, fun i c hi => ?_⟩
  by_cases hmi : m = i
  · subst hmi
    rw [List.getElem?_set_self hm] at hi
    cases hi
    obtain ⟨c', hc'⟩ := get_of_lt hm
    exact World.cell?_setCell_same' _ _ _ (by rw [h.2 m c' hc']; rfl)
  · rw [List.getElem?_set_ne hmi] at hi
    rw [World.cell?_setCell_other _ _ _ _ (by first | omega | (simp; done) | (simp; omega))]
    exact h.2 i c hi
end Go.Proofs.Ytoogofceoinniab
