/- Votes: the mathematics of distances, ticks, votes, the grid and events. -/
import Derived.Test.YtoogofceoinniabFArrival
import Derived.Test.YtoogofceoinniabFOrigin
import Derived.Test.YtoogofceoinniabRed
import Derived.Test.YtoogofceoinniabAcc
namespace Go.Proofs.Ytoogofceoinniab
open Go.ChangeShapes Go.WideShapes Go.ChangeAt Go.RowKit Go.ChangeMaps
set_option linter.unusedSimpArgs false
set_option linter.unusedVariables false
set_option linter.unusedSimpArgs false
set_option linter.unusedVariables false

def okAr (a : GArrival) : Prop := (1 ≤ a.pId ∧ a.pId ≤ 99) ∧ ((0 ≤ a.pX ∧ a.pX ≤ 999) ∧ (0 ≤ a.pY ∧ a.pY ≤ 999)) ∧ (0 ≤ a.pTick ∧ a.pTick ≤ 1000000) ∧ (0 ≤ a.pError ∧ a.pError ≤ 1000)
def oneAr (a : GArrival) : Bool := decide ((1 ≤ a.pId ∧ a.pId ≤ 99) ∧ ((0 ≤ a.pX ∧ a.pX ≤ 999) ∧ (0 ≤ a.pY ∧ a.pY ≤ 999)) ∧ (0 ≤ a.pTick ∧ a.pTick ≤ 1000000) ∧ (0 ≤ a.pError ∧ a.pError ≤ 1000))
theorem oneAr_yes {a : GArrival} (h : oneAr a = true) : okAr a := by unfold oneAr at h; have g := of_decide_eq_true h; exact g
theorem oneAr_mk {a : GArrival} (h : okAr a) : oneAr a = true := by unfold oneAr; apply decide_eq_true; exact h
theorem oneAr_no {a : GArrival} (h : ¬ okAr a) : oneAr a = false := by unfold oneAr; exact decide_eq_false (fun g => h g)
def okOr (o : GOrigin) : Prop := ((0 ≤ o.pX ∧ o.pX ≤ 999) ∧ (0 ≤ o.pY ∧ o.pY ≤ 999)) ∧ (0 ≤ o.pTick ∧ o.pTick ≤ 1000000)
def goodOr (o : GOrigin) : Bool := decide (((0 ≤ o.pX ∧ o.pX ≤ 999) ∧ (0 ≤ o.pY ∧ o.pY ≤ 999)) ∧ (0 ≤ o.pTick ∧ o.pTick ≤ 1000000))
theorem goodOr_yes {o : GOrigin} (h : goodOr o = true) : okOr o := by unfold goodOr at h; have g := of_decide_eq_true h; exact g
theorem goodOr_mk {o : GOrigin} (h : okOr o) : goodOr o = true := by unfold goodOr; apply decide_eq_true; exact h
theorem goodOr_no {o : GOrigin} (h : ¬ okOr o) : goodOr o = false := by unfold goodOr; exact decide_eq_false (fun g => h g)
/-- The first k of a list are arrivals with ascending numbers. -/
def uptoAr (xs : List GArrival) (k : Nat) : Prop := (∀ j a, j < k → xs[j]? = some a → okAr a) ∧ ∀ j a b, j + 1 < k → xs[j]? = some a → xs[j + 1]? = some b → a.pId < b.pId
def okArs (xs : List GArrival) : Prop := uptoAr xs xs.length ∧ xs.length ≤ 8
noncomputable def goodAr (xs : List GArrival) : Bool := @decide (okArs xs) (Classical.propDecidable _)
theorem goodAr_yes {xs : List GArrival} (h : goodAr xs = true) : okArs xs := by unfold goodAr at h; exact @of_decide_eq_true _ (Classical.propDecidable _) h
theorem goodAr_mk {xs : List GArrival} (h : okArs xs) : goodAr xs = true := by unfold goodAr; exact @decide_eq_true _ (Classical.propDecidable _) h
theorem goodAr_no {xs : List GArrival} (h : ¬ okArs xs) : goodAr xs = false := by unfold goodAr; exact @decide_eq_false _ (Classical.propDecidable _) h
theorem uptoAr_zero (xs : List GArrival) : uptoAr xs 0 := ⟨fun j a h => by omega, fun j a b h => by omega⟩
theorem uptoAr_succ {xs : List GArrival} {k : Nat} {a : GArrival} (h : uptoAr xs k) (ha : xs[k]? = some a) (ho : okAr a) (hp : k = 0 ∨ ∃ p, xs[k - 1]? = some p ∧ p.pId < a.pId) : uptoAr xs (k + 1) := by
  refine ⟨fun j b hj hb => ?_, fun j b c hj hb hc => ?_⟩
  · by_cases e : j = k
    · subst e; rw [ha] at hb; cases hb; exact ho
    · exact h.1 j b (by omega) hb
  · by_cases e : j + 1 = k
    · subst e
      rw [ha] at hc; cases hc
      rcases hp with e | ⟨p, hp, hlt⟩
      · omega
      · rw [Nat.add_sub_cancel] at hp
        rw [hp] at hb; cases hb; exact hlt
    · exact h.2 j b c (by omega) hb hc
theorem okArs_mem {xs : List GArrival} (h : okArs xs) {a : GArrival} (ha : a ∈ xs) : okAr a := by
  obtain ⟨j, hj⟩ := List.mem_iff_getElem?.1 ha
  exact h.1.1 j a (List.getElem?_eq_some_iff.1 hj).1 hj
theorem okArs_pw {xs : List GArrival} (h : okArs xs) : xs.Pairwise (fun a b => a.pId < b.pId) := by
  have key : ∀ n i, i + 1 + n < xs.length → ∀ a b, xs[i]? = some a → xs[i + 1 + n]? = some b → a.pId < b.pId := by
    intro n
    induction n with
    | zero => intro i hi a b ha hb; exact h.1.2 i a b hi ha hb
    | succ n ih =>
      intro i hi a b ha hb
      obtain ⟨c, hc⟩ := get_of_lt (l := xs) (k := i + 1 + n) (by omega)
      have h1 := ih i (by omega) a c ha hc
      have h2 := h.1.2 (i + 1 + n) c b (by omega) hc hb
      omega
  rw [List.pairwise_iff_getElem]
  intro i j hi hj hij
  obtain ⟨n, rfl⟩ : ∃ n, j = i + 1 + n := ⟨j - i - 1, by omega⟩
  exact key n i hj _ _ (List.getElem?_eq_getElem hi) (List.getElem?_eq_getElem hj)
theorem okArs_sub {xs ys : List GArrival} (h : okArs xs) (hs : ys.Sublist xs) : okArs ys := by
  have hp := (okArs_pw h).sublist hs
  refine ⟨⟨fun j a _ ha => okArs_mem h (hs.subset (List.mem_of_getElem? ha)), fun j a b hj ha hb => ?_⟩, Nat.le_trans hs.length_le h.2⟩
  obtain ⟨hj1, e1⟩ := List.getElem?_eq_some_iff.1 ha
  obtain ⟨hj2, e2⟩ := List.getElem?_eq_some_iff.1 hb
  have := List.pairwise_iff_getElem.1 hp j (j + 1) hj1 hj2 (by omega)
  rw [e1, e2] at this
  exact this

/-- 400 times the square of a distance. -/
def sqV (ax ay bx by1 : Int) : Int := 400 * ((ax - bx) * (ax - bx) + (ay - by1) * (ay - by1))
theorem sq_bd {a b : Int} (h0 : 0 ≤ a ∧ a ≤ 999) (h1 : 0 ≤ b ∧ b ≤ 999) : 0 ≤ (a - b) * (a - b) ∧ (a - b) * (a - b) ≤ 998001 := by
  rcases Int.le_total a b with h | h
  · have e : (a - b) * (a - b) = (b - a) * (b - a) := by grind
    rw [e]
    exact ⟨Int.mul_nonneg (by omega) (by omega), by have := Int.mul_le_mul (show b - a ≤ 999 by omega) (show b - a ≤ 999 by omega) (by omega) (by omega); omega⟩
  · exact ⟨Int.mul_nonneg (by omega) (by omega), by have := Int.mul_le_mul (show a - b ≤ 999 by omega) (show a - b ≤ 999 by omega) (by omega) (by omega); omega⟩
theorem sqV_bd {ax ay bx by1 : Int} (h1 : 0 ≤ ax ∧ ax ≤ 999) (h2 : 0 ≤ ay ∧ ay ≤ 999) (h3 : 0 ≤ bx ∧ bx ≤ 999) (h4 : 0 ≤ by1 ∧ by1 ≤ 999) : 0 ≤ sqV ax ay bx by1 ∧ sqV ax ay bx by1 ≤ 798400800 := by
  have a := sq_bd h1 h3
  have b := sq_bd h2 h4
  unfold sqV
  omega
/-- Whether an origin fits an arrival. -/
def loF (a : GArrival) (o : GOrigin) : Int := a.pTick - a.pError - o.pTick
def hiF (a : GArrival) (o : GOrigin) : Int := a.pTick + a.pError - o.pTick
def fitV (a : GArrival) (o : GOrigin) : Bool := decide (0 ≤ hiF a o ∧ sqV a.pX a.pY o.pX o.pY ≤ hiF a o * hiF a o ∧ (loF a o ≤ 0 ∨ loF a o * loF a o ≤ sqV a.pX a.pY o.pX o.pY))
def votV (xs : List GArrival) (o : GOrigin) : List Int := (xs.filter (fitV · o)).map (·.pId)
def restV (xs : List GArrival) (o : GOrigin) : List GArrival := xs.filter (fun a => !fitV a o)
theorem votV_take {xs : List GArrival} {k : Nat} {a : GArrival} (h : xs[k]? = some a) (o : GOrigin) : votV (xs.take (k + 1)) o = if fitV a o then votV (xs.take k) o ++ [a.pId] else votV (xs.take k) o := by
  unfold votV
  rw [take_snoc h, List.filter_append, List.map_append]
  cases hf : fitV a o <;> simp [hf]
theorem restV_take {xs : List GArrival} {k : Nat} {a : GArrival} (h : xs[k]? = some a) (o : GOrigin) : restV (xs.take (k + 1)) o = if fitV a o then restV (xs.take k) o else restV (xs.take k) o ++ [a] := by
  unfold restV
  rw [take_snoc h, List.filter_append]
  cases hf : fitV a o <;> simp [hf]
theorem votV_len (xs : List GArrival) (o : GOrigin) : (votV xs o).length ≤ xs.length := by unfold votV; rw [List.length_map]; exact List.length_filter_le _ _
theorem restV_sub (xs : List GArrival) (o : GOrigin) : (restV xs o).Sublist xs := List.filter_sublist
theorem rest_vot (xs : List GArrival) (o : GOrigin) : (restV xs o).length + (votV xs o).length = xs.length := by
  unfold restV votV
  rw [List.length_map]
  induction xs with
  | nil => rfl
  | cons a l ih => cases hf : fitV a o <;> simp [hf] <;> omega

/-- The greatest whole number up to k whose square is at most n. -/
def rtN (n : Int) : Nat → Nat
  | 0 => 0
  | k + 1 => if ((k + 1 : Nat) : Int) * ((k + 1 : Nat) : Int) ≤ n then k + 1 else rtN n k
theorem rtN_le (n : Int) : ∀ k, rtN n k ≤ k
  | 0 => Nat.le_refl _
  | k + 1 => by have := rtN_le n k; unfold rtN; split <;> omega
theorem rtN_sq {n : Int} (h : 0 ≤ n) : ∀ k, ((rtN n k : Nat) : Int) * ((rtN n k : Nat) : Int) ≤ n
  | 0 => by show (0 : Int) * 0 ≤ n; omega
  | k + 1 => by
    unfold rtN
    split
    · assumption
    · exact rtN_sq h k
theorem rtN_gt (n : Int) : ∀ k r, rtN n k < r → r ≤ k → n < (r : Int) * (r : Int)
  | 0, r, h, hr => by omega
  | k + 1, r, h, hr => by
    unfold rtN at h
    split at h
    · omega
    · rename_i q
      by_cases e : r = k + 1
      · subst e; omega
      · exact rtN_gt n k r h (by omega)
def rootV (n : Int) : Nat := rtN n 40000
theorem sq_mono {a b : Int} (h0 : 0 ≤ a) (h : a ≤ b) : a * a ≤ b * b := Int.mul_le_mul h h h0 (by omega)
/-- Whoever has that is the root. -/
theorem rootV_is {n : Int} (h : 0 ≤ n) (hn : n < 1600000000) {r : Nat} (h1 : (r : Int) * r ≤ n) (h2 : n < ((r : Int) + 1) * ((r : Int) + 1)) : rootV n = r := by
  have a := rtN_sq h 40000
  have g := rtN_gt n 40000
  have l := rtN_le n 40000
  unfold rootV
  have hr : r ≤ 40000 := by
    rcases Nat.lt_or_ge 40000 r with q | q
    · have := sq_mono (a := 40000) (b := (r : Int)) (by omega) (by omega)
      omega
    · exact q
  rcases Nat.lt_trichotomy (rtN n 40000) r with q | q | q
  · have := g r q hr; omega
  · exact q
  · have := sq_mono (a := (r : Int) + 1) (b := ((rtN n 40000 : Nat) : Int)) (by omega) (by omega)
    omega
theorem rootV_bd {n : Int} (h : 0 ≤ n) (hn : n ≤ 798400800) : (rootV n : Int) ≤ 28257 ∧ (rootV n : Int) * rootV n ≤ n ∧ n < ((rootV n : Int) + 1) * ((rootV n : Int) + 1) := by
  have a := rtN_sq h 40000
  have g := rtN_gt n 40000
  have l := rtN_le n 40000
  unfold rootV
  have hb : ((rtN n 40000 : Nat) : Int) ≤ 28257 := by
    rcases Int.lt_or_le 28257 ((rtN n 40000 : Nat) : Int) with q | q
    · have := sq_mono (a := 28258) (b := ((rtN n 40000 : Nat) : Int)) (by omega) (by omega)
      omega
    · exact q
  refine ⟨hb, a, ?_⟩
  have := g (rtN n 40000 + 1) (by omega) (by omega)
  simpa using this
def upV (n : Int) : Int := if (rootV n : Int) * rootV n < n then (rootV n : Int) + 1 else rootV n
theorem upV_le {n : Int} (h : 0 ≤ n) (hn : n ≤ 798400800) {t : Int} (ht : 0 ≤ t) : n ≤ t * t ↔ upV n ≤ t := by
  obtain ⟨-, h1, h2⟩ := rootV_bd h hn
  unfold upV
  generalize ((rootV n : Nat) : Int) = r at *
  have hr0 : 0 ≤ r ∨ r < 0 := by omega
  split
  · rename_i q
    constructor
    · intro g
      rcases Int.lt_or_le t (r + 1) with e | e
      · have := sq_mono ht (show t ≤ r by omega); omega
      · exact e
    · intro g
      rcases hr0 with k | k
      · have := sq_mono (a := r + 1) (b := t) (by omega) g; omega
      · have := sq_mono (a := 0) (b := t) (by omega) ht
        have e2 : r * r = (-r) * (-r) := by grind
        have e3 : (r + 1) * (r + 1) = (-(r + 1)) * (-(r + 1)) := by grind
        have := sq_mono (a := -(r + 1)) (b := -r) (by omega) (by omega)
        omega
  · rename_i q
    constructor
    · intro g
      rcases Int.lt_or_le t r with e | e
      · have := sq_mono ht (show t ≤ r - 1 by omega)
        have e2 : (r - 1) * (r - 1) = r * r - 2 * r + 1 := by grind
        omega
      · exact e
    · intro g
      rcases hr0 with k | k
      · have := sq_mono (a := r) (b := t) k g; omega
      · have e2 : r * r = (-r) * (-r) := by grind
        have e3 : (r + 1) * (r + 1) = (-(r + 1)) * (-(r + 1)) := by grind
        have := sq_mono (a := -(r + 1)) (b := -r) (by omega) (by omega)
        omega
theorem rootV_le {n : Int} (h : 0 ≤ n) (hn : n ≤ 798400800) {t : Int} (ht : 0 ≤ t) : t * t ≤ n ↔ t ≤ (rootV n : Int) := by
  obtain ⟨-, h1, h2⟩ := rootV_bd h hn
  constructor
  · intro g
    rcases Int.lt_or_le (rootV n : Int) t with e | e
    · have := sq_mono (a := (rootV n : Int) + 1) (b := t) (by omega) (by omega); omega
    · exact e
  · intro g
    have := sq_mono ht g
    omega
/-- The ticks with which an origin at a place fits an arrival. -/
def loT (a : GArrival) (x y : Int) : Int := max 0 (a.pTick - a.pError - rootV (sqV a.pX a.pY x y))
def hiT (a : GArrival) (x y : Int) : Int := min 1000000 (a.pTick + a.pError - upV (sqV a.pX a.pY x y))
theorem upV_bd {n : Int} (h : 0 ≤ n) (hn : n ≤ 798400800) : 0 ≤ upV n ∧ upV n ≤ 28258 := by
  have := rootV_bd h hn
  unfold upV
  split <;> omega
theorem ticks_bd {a : GArrival} (ha : okAr a) {x y : Int} (hx : 0 ≤ x ∧ x ≤ 999) (hy : 0 ≤ y ∧ y ≤ 999) : (0 ≤ loT a x y ∧ loT a x y ≤ 1000000) ∧ (-28258 ≤ hiT a x y ∧ hiT a x y ≤ 1000000) := by
  obtain ⟨h1, ⟨h2, h3⟩, h4, h5⟩ := ha
  have hs := sqV_bd h2 h3 hx hy
  have hu := upV_bd hs.1 hs.2
  unfold loT hiT
  omega
theorem fit_ticks {a : GArrival} (ha : okAr a) {o : GOrigin} (ho : okOr o) : fitV a o = decide (loT a o.pX o.pY ≤ o.pTick ∧ o.pTick ≤ hiT a o.pX o.pY) := by
  obtain ⟨h1, ⟨h2, h3⟩, h4, h5⟩ := ha
  obtain ⟨⟨h6, h7⟩, h8⟩ := ho
  have hs := sqV_bd h2 h3 h6 h7
  unfold fitV
  rw [decide_eq_decide]
  unfold loT hiT loF hiF
  generalize sqV a.pX a.pY o.pX o.pY = q at *
  have hub := upV_bd hs.1 hs.2
  have hu := fun t (ht : 0 ≤ t) => upV_le hs.1 hs.2 (t := t) ht
  have hr := fun t (ht : 0 ≤ t) => rootV_le hs.1 hs.2 (t := t) ht
  constructor
  · rintro ⟨g1, g2, g3⟩
    have k1 := (hu _ g1).1 g2
    have k2 : a.pTick - a.pError - o.pTick ≤ (rootV q : Int) := by
      rcases g3 with g3 | g3
      · omega
      · rcases Int.lt_or_le 0 (a.pTick - a.pError - o.pTick) with e | e
        · exact (hr _ (by omega)).1 g3
        · omega
    omega
  · rintro ⟨g1, g2⟩
    have k0 : 0 ≤ a.pTick + a.pError - o.pTick := by omega
    refine ⟨k0, (hu _ k0).2 (by omega), ?_⟩
    rcases Int.lt_or_le 0 (a.pTick - a.pError - o.pTick) with e | e
    · exact Or.inr ((hr _ (by omega)).2 (by omega))
    · exact Or.inl e
/-- The most votes at a place, and their smallest tick. -/
def stepV (xs : List GArrival) (x y : Int) (b : Int × Int) (a : GArrival) : Int × Int :=
  if loT a x y ≤ hiT a x y then
    (if b.1 < ((votV xs ⟨x, y, loT a x y⟩).length : Int) ∨ ((votV xs ⟨x, y, loT a x y⟩).length : Int) = b.1 ∧ loT a x y < b.2 then (((votV xs ⟨x, y, loT a x y⟩).length : Int), loT a x y) else b)
  else b
def mostV (xs : List GArrival) (x y : Int) (k : Nat) : Int × Int := (xs.take k).foldl (stepV xs x y) (0, 0)
theorem mostV_succ {xs : List GArrival} {k : Nat} {a : GArrival} (h : xs[k]? = some a) (x y : Int) : mostV xs x y (k + 1) = stepV xs x y (mostV xs x y k) a := by
  unfold mostV
  rw [take_snoc h, List.foldl_append]
  rfl
theorem mostV_bd {xs : List GArrival} (h : okArs xs) {x y : Int} (hx : 0 ≤ x ∧ x ≤ 999) (hy : 0 ≤ y ∧ y ≤ 999) : ∀ k, k ≤ xs.length → (0 ≤ (mostV xs x y k).1 ∧ (mostV xs x y k).1 ≤ 8) ∧ (0 ≤ (mostV xs x y k).2 ∧ (mostV xs x y k).2 ≤ 1000000)
  | 0, _ => by show ((0 : Int) ≤ 0 ∧ (0 : Int) ≤ 8) ∧ ((0 : Int) ≤ 0 ∧ (0 : Int) ≤ 1000000); omega
  | k + 1, hk => by
    have i := mostV_bd h hx hy k (by omega)
    obtain ⟨a, ha⟩ := get_of_lt (l := xs) (k := k) (by omega)
    have ho := okArs_mem h (List.mem_of_getElem? ha)
    have tb := ticks_bd ho hx hy
    have vl := votV_len xs ⟨x, y, loT a x y⟩
    have := h.2
    rw [mostV_succ ha]
    unfold stepV
    split
    · split
      · show (0 ≤ ((votV xs ⟨x, y, loT a x y⟩).length : Int) ∧ ((votV xs ⟨x, y, loT a x y⟩).length : Int) ≤ 8) ∧ (0 ≤ loT a x y ∧ loT a x y ≤ 1000000)
        omega
      · exact i
    · exact i
theorem mostV_at {xs : List GArrival} {k : Nat} {a : GArrival} (h : xs[k]? = some a) (x y : Int) (hf : loT a x y ≤ hiT a x y) : ((votV xs ⟨x, y, loT a x y⟩).length : Int) ≤ (mostV xs x y (k + 1)).1 := by
  rw [mostV_succ h]
  unfold stepV
  rw [if_pos hf]
  split
  · exact Int.le_refl _
  · omega
theorem mostV_mono {xs : List GArrival} {k : Nat} {a : GArrival} (h : xs[k]? = some a) (x y : Int) : (mostV xs x y k).1 ≤ (mostV xs x y (k + 1)).1 := by
  rw [mostV_succ h]
  unfold stepV
  split
  · split
    · show (mostV xs x y k).1 ≤ ((votV xs ⟨x, y, loT a x y⟩).length : Int)
      omega
    · exact Int.le_refl _
  · exact Int.le_refl _
theorem mostV_all {xs : List GArrival} (x y : Int) {k : Nat} : ∀ d, k + d ≤ xs.length → (mostV xs x y k).1 ≤ (mostV xs x y (k + d)).1
  | 0, _ => Int.le_refl _
  | d + 1, h => by
    obtain ⟨a, ha⟩ := get_of_lt (l := xs) (k := k + d) (by omega)
    have := mostV_all (xs := xs) x y (k := k) d (by omega)
    have := mostV_mono ha x y
    rw [← Nat.add_assoc]
    omega
theorem mostV_is {xs : List GArrival} (x y : Int) : ∀ k, k ≤ xs.length → (mostV xs x y k).1 ≤ 0 ∨ (mostV xs x y k).1 = ((votV xs ⟨x, y, (mostV xs x y k).2⟩).length : Int)
  | 0, _ => Or.inl (Int.le_refl _)
  | k + 1, h => by
    obtain ⟨a, ha⟩ := get_of_lt (l := xs) (k := k) (by omega)
    have i := mostV_is (xs := xs) x y k (by omega)
    rw [mostV_succ ha]
    unfold stepV
    split
    · split
      · exact Or.inr rfl
      · exact i
    · exact i
/-- A list that is not empty has a greatest one by any measure. -/
theorem most_of {α : Type} (f : α → Int) : ∀ (l : List α), l ≠ [] → ∃ a, a ∈ l ∧ ∀ b ∈ l, f b ≤ f a
  | [], h => absurd rfl h
  | [a], _ => ⟨a, by simp, fun b hb => by rw [List.mem_singleton] at hb; subst hb; exact Int.le_refl _⟩
  | a :: b :: l, _ => by
    obtain ⟨c, hc, hm⟩ := most_of f (b :: l) (by simp)
    by_cases q : f c ≤ f a
    · refine ⟨a, by simp, fun d hd => ?_⟩
      rcases List.mem_cons.1 hd with rfl | hd
      · exact Int.le_refl _
      · have := hm d hd; omega
    · refine ⟨c, by simp [hc], fun d hd => ?_⟩
      rcases List.mem_cons.1 hd with rfl | hd
      · omega
      · exact hm d hd
theorem filter_le {α : Type} {p q : α → Bool} : ∀ (l : List α), (∀ a ∈ l, p a = true → q a = true) → (l.filter p).length ≤ (l.filter q).length
  | [], _ => Nat.le_refl _
  | a :: l, h => by
    have i := filter_le l (fun b hb => h b (by simp [hb]))
    have ha := h a (by simp)
    rw [List.filter_cons, List.filter_cons]
    by_cases hp : p a = true
    · rw [if_pos hp, if_pos (ha hp), List.length_cons, List.length_cons]; omega
    · rw [if_neg hp]
      split
      · rw [List.length_cons]; omega
      · exact i
/-- No tick has more votes than the most. -/
theorem vot_most {xs : List GArrival} (h : okArs xs) {o : GOrigin} (ho : okOr o) : ((votV xs o).length : Int) ≤ (mostV xs o.pX o.pY xs.length).1 := by
  have hm := (mostV_bd h ho.1.1 ho.1.2 xs.length (Nat.le_refl _)).1.1
  by_cases he : xs.filter (fitV · o) = []
  · unfold votV; rw [he]; exact hm
  obtain ⟨a, ha, hg⟩ := most_of (fun a => loT a o.pX o.pY) _ he
  rw [List.mem_filter] at ha
  obtain ⟨ha, hfa⟩ := ha
  have oa := okArs_mem h ha
  rw [fit_ticks oa ho] at hfa
  have hfa := of_decide_eq_true hfa
  have tb := ticks_bd oa ho.1.1 ho.1.2
  have hle : (votV xs o).length ≤ (votV xs ⟨o.pX, o.pY, loT a o.pX o.pY⟩).length := by
    unfold votV
    rw [List.length_map, List.length_map]
    refine filter_le xs fun b hb hfb => ?_
    have hgb := hg b (by rw [List.mem_filter]; exact ⟨hb, hfb⟩)
    have ob := okArs_mem h hb
    rw [fit_ticks ob ho] at hfb
    have hfb := of_decide_eq_true hfb
    rw [fit_ticks ob (o := ⟨o.pX, o.pY, loT a o.pX o.pY⟩) ⟨ho.1, tb.1⟩]
    apply decide_eq_true
    show loT b o.pX o.pY ≤ loT a o.pX o.pY ∧ loT a o.pX o.pY ≤ hiT b o.pX o.pY
    have : loT b o.pX o.pY ≤ loT a o.pX o.pY := hgb
    omega
  obtain ⟨k, hk⟩ := List.mem_iff_getElem?.1 ha
  have hkl := (List.getElem?_eq_some_iff.1 hk).1
  have g1 := mostV_at hk o.pX o.pY (by omega)
  have g2 := mostV_all (xs := xs) o.pX o.pY (k := k + 1) (xs.length - (k + 1)) (by omega)
  have e : k + 1 + (xs.length - (k + 1)) = xs.length := by omega
  rw [e] at g2
  omega
theorem has_fit {xs : List GArrival} (h : okArs xs) {a : GArrival} (ha : a ∈ xs) (o : GOrigin) : a.pId ∈ votV xs o ↔ fitV a o = true := by
  unfold votV
  rw [List.mem_map]
  constructor
  · rintro ⟨b, hb, e⟩
    rw [List.mem_filter] at hb
    have hp := okArs_pw h
    obtain ⟨i, hi⟩ := List.mem_iff_getElem?.1 ha
    obtain ⟨j, hj⟩ := List.mem_iff_getElem?.1 hb.1
    obtain ⟨hi1, e1⟩ := List.getElem?_eq_some_iff.1 hi
    obtain ⟨hj1, e2⟩ := List.getElem?_eq_some_iff.1 hj
    rcases Nat.lt_trichotomy i j with q | q | q
    · have := List.pairwise_iff_getElem.1 hp i j hi1 hj1 q
      rw [e1, e2] at this; omega
    · subst q; rw [hi] at hj; cases hj; exact hb.2
    · have := List.pairwise_iff_getElem.1 hp j i hj1 hi1 q
      rw [e1, e2] at this; omega
  · intro hf
    exact ⟨a, by rw [List.mem_filter]; exact ⟨ha, hf⟩, rfl⟩

/-- The grid: how many places a line has. -/
def cntV (step : Int) : Nat := (999 / step).toNat + 1
theorem cnt_le {step : Int} (hs : 50 ≤ step ∧ step ≤ 500) (k : Nat) : (k : Int) * step ≤ 999 ↔ k < cntV step := by
  unfold cntV
  have h0 : 0 ≤ 999 / step := Int.ediv_nonneg (by omega) (by omega)
  have h1 := Int.le_ediv_iff_mul_le (a := (k : Int)) (b := 999) (c := step) (by omega)
  rw [← h1]
  omega
def pickV (xs : List GArrival) (x y : Int) (b : GOrigin × Int) : GOrigin × Int := if b.2 < (mostV xs x y xs.length).1 then (⟨x, y, (mostV xs x y xs.length).2⟩, (mostV xs x y xs.length).1) else b
def lineV (xs : List GArrival) (step x : Int) (b : GOrigin × Int) : Nat → GOrigin × Int
  | 0 => b
  | k + 1 => pickV xs x ((k : Int) * step) (lineV xs step x b k)
def gridV (xs : List GArrival) (step : Int) : Nat → GOrigin × Int
  | 0 => (⟨0, 0, 0⟩, 0)
  | k + 1 => lineV xs step ((k : Int) * step) (gridV xs step k) (cntV step)
def bestV (xs : List GArrival) (step : Int) : GOrigin × Int := gridV xs step (cntV step)
/-- What holds of each best: bounds, and its votes are its own. -/
def fineV (xs : List GArrival) (b : GOrigin × Int) : Prop := okOr b.1 ∧ (0 ≤ b.2 ∧ b.2 ≤ 8) ∧ (b.2 = 0 ∨ b.2 = ((votV xs b.1).length : Int))
theorem pickV_fine {xs : List GArrival} (h : okArs xs) {x y : Int} (hx : 0 ≤ x ∧ x ≤ 999) (hy : 0 ≤ y ∧ y ≤ 999) {b : GOrigin × Int} (hb : fineV xs b) : fineV xs (pickV xs x y b) := by
  have m := mostV_bd h hx hy xs.length (Nat.le_refl _)
  have i := mostV_is (xs := xs) x y xs.length (Nat.le_refl _)
  unfold pickV
  split
  · refine ⟨⟨⟨hx, hy⟩, m.2⟩, m.1, ?_⟩
    rcases i with i | i
    · have := hb.2.1.1; omega
    · exact Or.inr i
  · exact hb
theorem lineV_fine {xs : List GArrival} (h : okArs xs) {step x : Int} (hs : 50 ≤ step ∧ step ≤ 500) (hx : 0 ≤ x ∧ x ≤ 999) {b : GOrigin × Int} (hb : fineV xs b) : ∀ k, k ≤ cntV step → fineV xs (lineV xs step x b k)
  | 0, _ => hb
  | k + 1, hk => by
    have h1 := (cnt_le hs k).2 (by omega)
    have h2 : 0 ≤ (k : Int) * step := Int.mul_nonneg (by omega) (by omega)
    exact pickV_fine h hx ⟨h2, h1⟩ (lineV_fine h hs hx hb k (by omega))
theorem gridV_fine {xs : List GArrival} (h : okArs xs) {step : Int} (hs : 50 ≤ step ∧ step ≤ 500) : ∀ k, k ≤ cntV step → fineV xs (gridV xs step k)
  | 0, _ => ⟨⟨⟨by show (0 : Int) ≤ 0 ∧ (0 : Int) ≤ 999; omega, by show (0 : Int) ≤ 0 ∧ (0 : Int) ≤ 999; omega⟩, by show (0 : Int) ≤ 0 ∧ (0 : Int) ≤ 1000000; omega⟩, by show (0 : Int) ≤ 0 ∧ (0 : Int) ≤ 8; omega, Or.inl rfl⟩
  | k + 1, hk => by
    have h1 := (cnt_le hs k).2 (by omega)
    have h2 : 0 ≤ (k : Int) * step := Int.mul_nonneg (by omega) (by omega)
    exact lineV_fine h hs ⟨h2, h1⟩ (gridV_fine h hs k (by omega)) _ (Nat.le_refl _)
theorem bestV_fine {xs : List GArrival} (h : okArs xs) {step : Int} (hs : 50 ≤ step ∧ step ≤ 500) : fineV xs (bestV xs step) := gridV_fine h hs _ (Nat.le_refl _)
/-- The events: what is left after k of them, and the first k. -/
def leftV (xs : List GArrival) (step : Int) : Nat → List GArrival
  | 0 => xs
  | k + 1 => restV (leftV xs step k) (bestV (leftV xs step k) step).1
def evsV (xs : List GArrival) (step : Int) (k : Nat) : List GOrigin := (List.range k).map fun j => (bestV (leftV xs step j) step).1
theorem evsV_succ (xs : List GArrival) (step : Int) (k : Nat) : evsV xs step (k + 1) = evsV xs step k ++ [(bestV (leftV xs step k) step).1] := by
  unfold evsV
  rw [List.range_succ, List.map_append]
  rfl
theorem evsV_len (xs : List GArrival) (step : Int) (k : Nat) : (evsV xs step k).length = k := by unfold evsV; simp
theorem evsV_get (xs : List GArrival) (step : Int) {k j : Nat} (h : j < k) : (evsV xs step k)[j]? = some (bestV (leftV xs step j) step).1 := by
  unfold evsV
  rw [List.getElem?_map, List.getElem?_range h]
  rfl
theorem leftV_ok {xs : List GArrival} (h : okArs xs) (step : Int) : ∀ k, okArs (leftV xs step k)
  | 0 => h
  | k + 1 => okArs_sub (leftV_ok h step k) (restV_sub _ _)
/-- The number of events. -/
def endV (xs : List GArrival) (step least : Int) (k : Nat) : Prop := (bestV (leftV xs step k) step).2 < least ∧ ∀ j, j < k → least ≤ (bestV (leftV xs step j) step).2
theorem endV_one {xs : List GArrival} {step least : Int} {k l : Nat} (h : endV xs step least k) (g : endV xs step least l) : k = l := by
  rcases Nat.lt_trichotomy k l with q | q | q
  · have := g.2 k q; have := h.1; omega
  · exact q
  · have := h.2 l q; have := g.1; omega
theorem left_less {xs : List GArrival} (h : okArs xs) {step least : Int} (hs : 50 ≤ step ∧ step ≤ 500) (hl : 1 ≤ least) {k : Nat} (hk : least ≤ (bestV (leftV xs step k) step).2) : ((leftV xs step (k + 1)).length : Int) + (bestV (leftV xs step k) step).2 = (leftV xs step k).length := by
  have f := bestV_fine (leftV_ok h step k) hs
  have r := rest_vot (leftV xs step k) (bestV (leftV xs step k) step).1
  show ((restV (leftV xs step k) (bestV (leftV xs step k) step).1).length : Int) + _ = _
  rcases f.2.2 with f | f <;> omega
theorem left_bd {xs : List GArrival} (h : okArs xs) {step least : Int} (hs : 50 ≤ step ∧ step ≤ 500) (hl : 1 ≤ least) : ∀ k, (∀ j, j < k → least ≤ (bestV (leftV xs step j) step).2) → (leftV xs step k).length + k ≤ xs.length
  | 0, _ => Nat.le_refl _
  | k + 1, hk => by
    have i := left_bd h hs hl k (fun j hj => hk j (by omega))
    have q := hk k (by omega)
    have l := left_less h hs hl q
    omega
theorem first_end (p : Nat → Prop) : ∀ n, p n → ∃ k, k ≤ n ∧ p k ∧ ∀ j, j < k → ¬ p j
  | 0, h => ⟨0, Nat.le_refl _, h, fun j hj => by omega⟩
  | n + 1, h => by
    by_cases q : ∃ j, j ≤ n ∧ p j
    · obtain ⟨j, hj, hp⟩ := q
      obtain ⟨k, hk, h1, h2⟩ := first_end p j hp
      exact ⟨k, by omega, h1, h2⟩
    · exact ⟨n + 1, Nat.le_refl _, h, fun j hj hp => q ⟨j, by omega, hp⟩⟩
termination_by n => n
theorem endV_ex {xs : List GArrival} (h : okArs xs) {step least : Int} (hs : 50 ≤ step ∧ step ≤ 500) (hl : 1 ≤ least) : ∃ k, k ≤ xs.length ∧ endV xs step least k := by
  by_cases q : ∃ n, n ≤ xs.length ∧ (bestV (leftV xs step n) step).2 < least
  · obtain ⟨n, hn, hp⟩ := q
    obtain ⟨k, hk, h1, h2⟩ := first_end (fun k => (bestV (leftV xs step k) step).2 < least) n hp
    exact ⟨k, by omega, h1, fun j hj => by have := h2 j hj; omega⟩
  · exfalso
    have g : ∀ j, j < xs.length + 1 → least ≤ (bestV (leftV xs step j) step).2 := fun j hj => by
      rcases Int.lt_or_le (bestV (leftV xs step j) step).2 least with e | e
      · exact absurd ⟨j, by omega, e⟩ q
      · exact e
    have := left_bd h hs hl (xs.length + 1) g
    omega
theorem goodAr_left {xs : List GArrival} (h : okArs xs) (step : Int) (k : Nat) : goodAr (leftV xs step k) = true := goodAr_mk (leftV_ok h step k)
end Go.Proofs.Ytoogofceoinniab
