/- Location by boxes: the mathematics of sides, reaches, parts, cells and places. -/
import Derived.Test.YtoogofceoinniaaVoM
import Derived.Test.YtoogofceoinniaaFCube
import Derived.Test.YtoogofceoinniaaGn
namespace Go.Proofs.Ytoogofceoinniaa
open Go.ChangeShapes Go.WideShapes Go.ChangeAt Go.RowKit Go.ChangeMaps
set_option linter.unusedSimpArgs false
set_option linter.unusedVariables false
set_option linter.unusedSimpArgs false
set_option linter.unusedVariables false

/-- Sides. -/
def okSide (s : Int) : Prop := ∃ n : Nat, n ≤ 9 ∧ s = 2 ^ n
theorem okSide_bd {s : Int} (h : okSide s) : 1 ≤ s ∧ s ≤ 512 := by
  obtain ⟨n, hn, rfl⟩ := h
  have : n = 0 ∨ n = 1 ∨ n = 2 ∨ n = 3 ∨ n = 4 ∨ n = 5 ∨ n = 6 ∨ n = 7 ∨ n = 8 ∨ n = 9 := by omega
  rcases this with rfl | rfl | rfl | rfl | rfl | rfl | rfl | rfl | rfl | rfl <;> decide
theorem okSide_iff (s : Int) : okSide s ↔ s = 1 ∨ s = 2 ∨ s = 4 ∨ s = 8 ∨ s = 16 ∨ s = 32 ∨ s = 64 ∨ s = 128 ∨ s = 256 ∨ s = 512 := by
  constructor
  · rintro ⟨n, hn, rfl⟩
    have : n = 0 ∨ n = 1 ∨ n = 2 ∨ n = 3 ∨ n = 4 ∨ n = 5 ∨ n = 6 ∨ n = 7 ∨ n = 8 ∨ n = 9 := by omega
    rcases this with rfl | rfl | rfl | rfl | rfl | rfl | rfl | rfl | rfl | rfl <;> decide
  · rintro (rfl | rfl | rfl | rfl | rfl | rfl | rfl | rfl | rfl | rfl)
    · exact ⟨0, by omega, rfl⟩
    · exact ⟨1, by omega, rfl⟩
    · exact ⟨2, by omega, rfl⟩
    · exact ⟨3, by omega, rfl⟩
    · exact ⟨4, by omega, rfl⟩
    · exact ⟨5, by omega, rfl⟩
    · exact ⟨6, by omega, rfl⟩
    · exact ⟨7, by omega, rfl⟩
    · exact ⟨8, by omega, rfl⟩
    · exact ⟨9, by omega, rfl⟩
def okCb (b : GCube) : Prop := okSide b.pSide ∧ ((0 ≤ b.pWest ∧ b.pWest ≤ 999) ∧ (0 ≤ b.pSouth ∧ b.pSouth ≤ 999)) ∧ (b.pSide ∣ b.pWest ∧ b.pSide ∣ b.pSouth) ∧ (0 ≤ b.pFrom ∧ b.pFrom ≤ 1000000) ∧ (0 ≤ b.pTo ∧ b.pTo ≤ 1000000) ∧ b.pFrom ≤ b.pTo
noncomputable def goodCb (b : GCube) : Bool := @decide (okCb b) (Classical.propDecidable _)
theorem goodCb_yes {b : GCube} (h : goodCb b = true) : okCb b := by unfold goodCb at h; exact @of_decide_eq_true _ (Classical.propDecidable _) h
theorem goodCb_mk {b : GCube} (h : okCb b) : goodCb b = true := by unfold goodCb; exact @decide_eq_true _ (Classical.propDecidable _) h
theorem goodCb_no {b : GCube} (h : ¬ okCb b) : goodCb b = false := by unfold goodCb; exact @decide_eq_false _ (Classical.propDecidable _) h
/-- The reach. -/
def nearC (x low side : Int) : Int := max 0 (max (low - x) (x - (low + side - 1)))
def farC (x low side : Int) : Int := max (low + side - 1 - x) (x - low)
def loR (b : GCube) (x y : Int) : Int := nearC x b.pWest b.pSide * nearC x b.pWest b.pSide + nearC y b.pSouth b.pSide * nearC y b.pSouth b.pSide
def hiR (b : GCube) (x y : Int) : Int := farC x b.pWest b.pSide * farC x b.pWest b.pSide + farC y b.pSouth b.pSide * farC y b.pSouth b.pSide
theorem nearC_bd {x low side : Int} (hx : 0 ≤ x ∧ x ≤ 999) (hl : 0 ≤ low ∧ low ≤ 999) (hs : 1 ≤ side ∧ side ≤ 512) : (0 ≤ nearC x low side ∧ nearC x low side ≤ 999) ∧ (0 ≤ farC x low side ∧ farC x low side ≤ 1510) ∧ nearC x low side ≤ farC x low side := by
  unfold nearC farC
  omega
theorem sq_cap {a M : Int} (h0 : 0 ≤ a) (h1 : a ≤ M) : 0 ≤ a * a ∧ a * a ≤ M * M := ⟨Int.mul_nonneg h0 h0, sq_mono h0 h1⟩
theorem reach_bd {b : GCube} (h : okCb b) {x y : Int} (hx : 0 ≤ x ∧ x ≤ 999) (hy : 0 ≤ y ∧ y ≤ 999) : 0 ≤ loR b x y ∧ loR b x y ≤ hiR b x y ∧ hiR b x y ≤ 4560200 := by
  have hs := okSide_bd h.1
  have p := nearC_bd hx h.2.1.1 hs
  have q := nearC_bd hy h.2.1.2 hs
  have a1 := sq_cap p.1.1 p.2.2
  have a2 := sq_cap q.1.1 q.2.2
  have a3 := sq_cap p.2.1.1 p.2.1.2
  have a4 := sq_cap q.2.1.1 q.2.1.2
  unfold loR hiR
  omega
/-- One cube lies in another. -/
def inCb (b c : GCube) : Prop := (b.pWest ≤ c.pWest ∧ c.pWest + c.pSide ≤ b.pWest + b.pSide) ∧ (b.pSouth ≤ c.pSouth ∧ c.pSouth + c.pSide ≤ b.pSouth + b.pSide) ∧ b.pFrom ≤ c.pFrom ∧ c.pTo ≤ b.pTo
theorem inCb_trans {a b c : GCube} (h : inCb a b) (g : inCb b c) : inCb a c := by unfold inCb at *; omega
theorem inCb_refl (b : GCube) : inCb b b := by unfold inCb; omega
theorem near_in {x l s l' s' : Int} (h0 : 1 ≤ s') (h : l ≤ l' ∧ l' + s' ≤ l + s) : (0 ≤ nearC x l s ∧ nearC x l s ≤ nearC x l' s') ∧ (0 ≤ farC x l' s' ∧ farC x l' s' ≤ farC x l s) := by
  unfold nearC farC
  omega
theorem reach_in {b c : GCube} (h0 : 1 ≤ c.pSide) (h : inCb b c) (x y : Int) : loR b x y ≤ loR c x y ∧ hiR c x y ≤ hiR b x y := by
  have p := near_in (x := x) h0 h.1
  have q := near_in (x := y) h0 h.2.1
  have a1 := sq_mono p.1.1 p.1.2
  have a2 := sq_mono q.1.1 q.1.2
  have a3 := sq_mono p.2.1 p.2.2
  have a4 := sq_mono q.2.1 q.2.2
  unfold loR hiR
  omega
/-- Whether a cube is possible. -/
def canC (a : GArrival) (b : GCube) : Bool := decide (0 ≤ a.pTick + a.pError - b.pFrom ∧ 400 * loR b a.pX a.pY ≤ (a.pTick + a.pError - b.pFrom) * (a.pTick + a.pError - b.pFrom) ∧ (a.pTick - a.pError - b.pTo ≤ 0 ∨ (a.pTick - a.pError - b.pTo) * (a.pTick - a.pError - b.pTo) ≤ 400 * hiR b a.pX a.pY))
def canV (xs : List GArrival) (b : GCube) : Bool := xs.all (canC · b)
theorem canC_in {a : GArrival} {b c : GCube} (h0 : 1 ≤ c.pSide) (h : inCb b c) (g : canC a c = true) : canC a b = true := by
  unfold canC at *
  obtain ⟨g1, g2, g3⟩ := of_decide_eq_true g
  have r := reach_in h0 h a.pX a.pY
  have hf := h.2.2
  apply decide_eq_true
  refine ⟨by omega, ?_, ?_⟩
  · have := sq_mono g1 (show a.pTick + a.pError - c.pFrom ≤ a.pTick + a.pError - b.pFrom by omega)
    omega
  · rcases (show a.pTick - a.pError - b.pTo ≤ 0 ∨ 0 < a.pTick - a.pError - b.pTo by omega) with q | q
    · exact Or.inl q
    · have := sq_mono (Int.le_of_lt q) (show a.pTick - a.pError - b.pTo ≤ a.pTick - a.pError - c.pTo by omega)
      rcases g3 with g3 | g3
      · omega
      · exact Or.inr (by omega)
theorem canV_in {xs : List GArrival} {b c : GCube} (h0 : 1 ≤ c.pSide) (h : inCb b c) (g : canV xs c = true) : canV xs b = true := by
  unfold canV at *
  rw [List.all_eq_true] at *
  exact fun a ha => canC_in h0 h (g a ha)
/-- An origin in a cube. -/
def holdsC (b : GCube) (o : GOrigin) : Bool := decide ((b.pWest ≤ o.pX ∧ o.pX ≤ b.pWest + b.pSide - 1) ∧ (b.pSouth ≤ o.pY ∧ o.pY ≤ b.pSouth + b.pSide - 1) ∧ (b.pFrom ≤ o.pTick ∧ o.pTick ≤ b.pTo))
theorem near_pt {x z l s : Int} (h : l ≤ z ∧ z ≤ l + s - 1) : nearC x l s * nearC x l s ≤ (x - z) * (x - z) ∧ (x - z) * (x - z) ≤ farC x l s * farC x l s := by
  have e : (x - z) * (x - z) = (z - x) * (z - x) := by grind
  rcases Int.le_total z x with q | q
  · exact ⟨sq_mono (by unfold nearC; omega) (by unfold nearC; omega), sq_mono (by omega) (by unfold farC; omega)⟩
  · rw [e]
    exact ⟨sq_mono (by unfold nearC; omega) (by unfold nearC; omega), sq_mono (by omega) (by unfold farC; omega)⟩
theorem canC_fit {a : GArrival} {b : GCube} {o : GOrigin} (h : holdsC b o = true) (g : fitV a o = true) : canC a b = true := by
  obtain ⟨h1, h2, h3⟩ := of_decide_eq_true h
  unfold fitV loF hiF at g
  obtain ⟨g1, g2, g3⟩ := of_decide_eq_true g
  have p := near_pt (x := a.pX) h1
  have q := near_pt (x := a.pY) h2
  unfold sqV at g2 g3
  unfold canC loR hiR
  apply decide_eq_true
  refine ⟨by omega, ?_, ?_⟩
  · have := sq_mono g1 (show a.pTick + a.pError - o.pTick ≤ a.pTick + a.pError - b.pFrom by omega)
    omega
  · rcases (show a.pTick - a.pError - b.pTo ≤ 0 ∨ 0 < a.pTick - a.pError - b.pTo by omega) with k | k
    · exact Or.inl k
    · have := sq_mono (Int.le_of_lt k) (show a.pTick - a.pError - b.pTo ≤ a.pTick - a.pError - o.pTick by omega)
      rcases g3 with g3 | g3
      · omega
      · exact Or.inr (by omega)
theorem canV_fit {xs : List GArrival} {b : GCube} {o : GOrigin} (h : holdsC b o = true) (g : ∀ a ∈ xs, fitV a o = true) : canV xs b = true := by
  unfold canV
  rw [List.all_eq_true]
  exact fun a ha => canC_fit h (g a ha)
/-- The parts of a cube. -/
def partC (b : GCube) (k : Nat) : GCube := ⟨b.pWest + (k / 2 : Nat) * (b.pSide / 2), b.pSouth + (k % 2 : Nat) * (b.pSide / 2), b.pSide / 2, b.pFrom, b.pTo⟩
def onMap (b : GCube) : Bool := decide (b.pWest ≤ 999 ∧ b.pSouth ≤ 999)
def splitV (b : GCube) : List GCube := ((List.range 4).map (partC b)).filter onMap
theorem half_side {s : Int} (h : okSide s) (h1 : s ≠ 1) : okSide (s / 2) ∧ s = 2 * (s / 2) := by
  obtain ⟨n, hn, rfl⟩ := h
  cases n with
  | zero => exact absurd rfl h1
  | succ n =>
    have e : (2 : Int) ^ (n + 1) = 2 * 2 ^ n := by rw [Int.pow_succ, Int.mul_comm]
    have e2 : (2 : Int) ^ (n + 1) / 2 = 2 ^ n := by rw [e]; exact Int.mul_ediv_cancel_left _ (by omega)
    rw [e2]
    exact ⟨⟨n, by omega, rfl⟩, e⟩
theorem part_ok {b : GCube} (h : okCb b) (h1 : b.pSide ≠ 1) {k : Nat} (hk : k < 4) : okCb (partC b k) ↔ onMap (partC b k) = true := by
  obtain ⟨hs, e⟩ := half_side h.1 h1
  have hb := okSide_bd hs
  obtain ⟨-, ⟨p1, p2⟩, ⟨d1, d2⟩, h4, h5, h6⟩ := h
  have hd : b.pSide / 2 ∣ b.pSide := ⟨2, by omega⟩
  have m1 := Int.mul_nonneg (show (0 : Int) ≤ ((k / 2 : Nat) : Int) by omega) (show 0 ≤ b.pSide / 2 by omega)
  have m2 := Int.mul_nonneg (show (0 : Int) ≤ ((k % 2 : Nat) : Int) by omega) (show 0 ≤ b.pSide / 2 by omega)
  unfold onMap
  rw [decide_eq_true_eq]
  constructor
  · intro g; exact ⟨g.2.1.1.2, g.2.1.2.2⟩
  · intro g
    refine ⟨hs, ⟨⟨?_, g.1⟩, ⟨?_, g.2⟩⟩, ⟨?_, ?_⟩, h4, h5, h6⟩
    · show 0 ≤ b.pWest + ((k / 2 : Nat) : Int) * (b.pSide / 2); omega
    · show 0 ≤ b.pSouth + ((k % 2 : Nat) : Int) * (b.pSide / 2); omega
    · show b.pSide / 2 ∣ b.pWest + ((k / 2 : Nat) : Int) * (b.pSide / 2)
      exact Int.dvd_add (Int.dvd_trans hd d1) (Int.dvd_mul_left _ _)
    · show b.pSide / 2 ∣ b.pSouth + ((k % 2 : Nat) : Int) * (b.pSide / 2)
      exact Int.dvd_add (Int.dvd_trans hd d2) (Int.dvd_mul_left _ _)
theorem part_in {b : GCube} (h : okCb b) (h1 : b.pSide ≠ 1) {k : Nat} (hk : k < 4) : inCb b (partC b k) := by
  obtain ⟨hs, e⟩ := half_side h.1 h1
  have hb := okSide_bd hs
  have : k = 0 ∨ k = 1 ∨ k = 2 ∨ k = 3 := by omega
  unfold inCb partC
  dsimp only
  generalize b.pSide / 2 = g at *
  rcases this with rfl | rfl | rfl | rfl <;> simp <;> omega
theorem splitV_mem {b p : GCube} : p ∈ splitV b ↔ ∃ k, k < 4 ∧ p = partC b k ∧ onMap (partC b k) = true := by
  unfold splitV
  rw [List.mem_filter, List.mem_map]
  constructor
  · rintro ⟨⟨k, hk, rfl⟩, h⟩
    exact ⟨k, List.mem_range.1 hk, rfl, h⟩
  · rintro ⟨k, hk, rfl, h⟩
    exact ⟨⟨k, List.mem_range.2 hk, rfl⟩, h⟩
/-- Small cubes of a cube. -/
def cellIn (b : GCube) (s : Int) (c : GCube) : Prop := okCb c ∧ c.pSide = s ∧ c.pFrom = b.pFrom ∧ c.pTo = b.pTo ∧ (b.pWest ≤ c.pWest ∧ c.pWest + s ≤ b.pWest + b.pSide) ∧ (b.pSouth ≤ c.pSouth ∧ c.pSouth + s ≤ b.pSouth + b.pSide)
theorem cellIn_in {b c : GCube} {s : Int} (h : cellIn b s c) : inCb b c := by
  obtain ⟨h1, h2, h3, h4, h5, h6⟩ := h
  unfold inCb
  rw [h2]
  omega
theorem cube_ext {a b : GCube} (h1 : a.pWest = b.pWest) (h2 : a.pSouth = b.pSouth) (h3 : a.pSide = b.pSide) (h4 : a.pFrom = b.pFrom) (h5 : a.pTo = b.pTo) : a = b := by
  cases a; cases b; simp only at *; subst h1 h2 h3 h4 h5; rfl
theorem cellIn_self {b c : GCube} : okCb b → (cellIn b b.pSide c ↔ c = b) := by
  intro hb
  constructor
  · rintro ⟨h1, h2, h3, h4, h5, h6⟩
    exact cube_ext (by omega) (by omega) h2 h3 h4
  · rintro rfl
    exact ⟨hb, rfl, rfl, rfl, by omega, by omega⟩
theorem mult_lt {s x y : Int} (hx : s ∣ x) (hy : s ∣ y) (h : x < y) : x + s ≤ y := by
  have := Int.le_of_dvd (show 0 < y - x by omega) (Int.dvd_sub hy hx)
  omega
/-- A small cube of a cube is one of one of its parts. -/
theorem cell_part {b c : GCube} {s : Int} (h : okCb b) (h1 : b.pSide ≠ 1) (hd : s ∣ b.pSide / 2) : cellIn b s c ↔ ∃ p ∈ splitV b, cellIn p s c := by
  obtain ⟨hs, e⟩ := half_side h.1 h1
  have hb := okSide_bd hs
  constructor
  · rintro ⟨h2, h3, h4, h5, h6, h7⟩
    have dw : s ∣ b.pWest + b.pSide / 2 := by
      refine Int.dvd_add (Int.dvd_trans hd (Int.dvd_trans ⟨2, by omega⟩ h.2.2.1.1)) hd
    have ds : s ∣ b.pSouth + b.pSide / 2 := by
      refine Int.dvd_add (Int.dvd_trans hd (Int.dvd_trans ⟨2, by omega⟩ h.2.2.1.2)) hd
    have cw : s ∣ c.pWest := by rw [← h3]; exact h2.2.2.1.1
    have cs : s ∣ c.pSouth := by rw [← h3]; exact h2.2.2.1.2
    have kw := mult_lt cw dw
    have ks := mult_lt cs ds
    have m1 := h2.2.1.1.2
    have m2 := h2.2.1.2.2
    have sp := fun k hk ho => (splitV_mem (b := b) (p := partC b k)).2 ⟨k, hk, rfl, ho⟩
    unfold onMap at sp
    unfold partC at sp
    dsimp only at sp
    by_cases q1 : c.pWest < b.pWest + b.pSide / 2 <;> by_cases q2 : c.pSouth < b.pSouth + b.pSide / 2
    · have g := sp 0 (by omega) (decide_eq_true (by simp; omega))
      exact ⟨_, g, h2, h3, h4, h5, by simp; omega, by simp; omega⟩
    · have g := sp 1 (by omega) (decide_eq_true (by simp; omega))
      exact ⟨_, g, h2, h3, h4, h5, by simp; omega, by simp; omega⟩
    · have g := sp 2 (by omega) (decide_eq_true (by simp; omega))
      exact ⟨_, g, h2, h3, h4, h5, by simp; omega, by simp; omega⟩
    · have g := sp 3 (by omega) (decide_eq_true (by simp; omega))
      exact ⟨_, g, h2, h3, h4, h5, by simp; omega, by simp; omega⟩
  · rintro ⟨p, hp, h2, h3, h4, h5, h6, h7⟩
    obtain ⟨k, hk, rfl, ho⟩ := splitV_mem.1 hp
    have i := part_in h h1 hk
    unfold inCb at i
    have e1 : (partC b k).pFrom = b.pFrom := rfl
    have e2 : (partC b k).pTo = b.pTo := rfl
    exact ⟨h2, h3, by omega, by omega, by omega, by omega⟩
/-- All possible small cubes of a cube. -/
def allV (xs : List GArrival) : Nat → GCube → List GCube
  | 0, b => if canV xs b then [b] else []
  | e + 1, b => if canV xs b then (splitV b).flatMap (allV xs e) else []
theorem allV_mem {xs : List GArrival} {s : Int} (hs : okSide s) : ∀ (e : Nat) (b : GCube), okCb b → b.pSide = s * 2 ^ e → ∀ c, c ∈ allV xs e b ↔ cellIn b s c ∧ canV xs c = true
  | 0, b, h, he, c => by
    have he : b.pSide = s := by rw [he]; simp
    subst he
    unfold allV
    rw [cellIn_self h]
    split
    · rename_i q
      rw [List.mem_singleton]
      exact ⟨fun g => ⟨g, by rw [g]; exact q⟩, fun g => g.1⟩
    · rename_i q
      constructor
      · intro g; simp at g
      · rintro ⟨rfl, g⟩; exact absurd g q
  | e + 1, b, h, he, c => by
    have sb := okSide_bd hs
    have e1 : s * 2 ^ (e + 1) = 2 * (s * 2 ^ e) := by rw [Int.pow_succ]; grind
    have hh : b.pSide / 2 = s * 2 ^ e := by rw [he, e1]; exact Int.mul_ediv_cancel_left _ (by omega)
    have pe : 1 ≤ s * (2 : Int) ^ e := by
      have : (0 : Int) < 2 ^ e := Int.pow_pos (by omega)
      exact Int.le_trans (show (1 : Int) ≤ 1 * 1 by omega) (Int.mul_le_mul sb.1 (show (1 : Int) ≤ 2 ^ e by omega) (by omega) (by omega))
    have h1 : b.pSide ≠ 1 := by omega
    have key : (∃ p ∈ splitV b, c ∈ allV xs e p) ↔ cellIn b s c ∧ canV xs c = true := by
      rw [cell_part h h1 (by rw [hh]; exact Int.dvd_mul_right _ _)]
      constructor
      · rintro ⟨p, hp, hc⟩
        obtain ⟨k, hk, rfl, ho⟩ := splitV_mem.1 hp
        have g := (allV_mem hs e _ ((part_ok h h1 hk).2 ho) (by show b.pSide / 2 = _; exact hh) c).1 hc
        exact ⟨⟨_, hp, g.1⟩, g.2⟩
      · rintro ⟨⟨p, hp, hc⟩, hq⟩
        obtain ⟨k, hk, rfl, ho⟩ := splitV_mem.1 hp
        exact ⟨_, hp, (allV_mem hs e _ ((part_ok h h1 hk).2 ho) (by show b.pSide / 2 = _; exact hh) c).2 ⟨hc, hq⟩⟩
    unfold allV
    split
    · rw [List.mem_flatMap]; exact key
    · rename_i q
      constructor
      · intro g; simp at g
      · rintro ⟨g, g2⟩
        exact absurd (canV_in (by have := okSide_bd g.1.1; omega) (cellIn_in g) g2) q
/-- The order of cubes. -/
def befC (a b : GCube) : Bool := decide (a.pWest < b.pWest ∨ a.pWest = b.pWest ∧ a.pSouth < b.pSouth)
theorem befC_iff (a b : GCube) : befC a b = true ↔ a.pWest < b.pWest ∨ a.pWest = b.pWest ∧ a.pSouth < b.pSouth := by unfold befC; exact decide_eq_true_iff
theorem befC_one {o l : List GCube} (hp : o.Perm l) (h : o.Pairwise (fun a b => befC a b = true)) (g : l.Pairwise (fun a b => befC a b = true)) : o = l :=
  List.Perm.eq_of_pairwise (le := fun a b => befC a b = true) (fun a b _ _ p q => by rw [befC_iff] at p q; omega) h g hp
theorem ins_bef {o : List GCube} {x : GCube} {k : Nat} (h : o.Pairwise (fun a b => befC a b = true)) (hk : k ≤ o.length) (h1 : ∀ y ∈ o.take k, befC y x = true) (h2 : ∀ y ∈ o.drop k, befC x y = true) : (o.take k ++ x :: o.drop k).Pairwise (fun a b => befC a b = true) := by
  rw [List.pairwise_append]
  refine ⟨h.sublist (List.take_sublist _ _), ?_, ?_⟩
  · rw [List.pairwise_cons]
    exact ⟨h2, h.sublist (List.drop_sublist _ _)⟩
  · intro a ha b hb
    rcases List.mem_cons.1 hb with rfl | hb
    · exact h1 a ha
    · have := h1 a ha
      have := h2 b hb
      rw [befC_iff] at *
      omega
/-- Up to a place of an ordered list all stand before what stands behind one of them. -/
theorem bef_take {o : List GCube} {k : Nat} {y x : GCube} (h : o.Pairwise (fun a b => befC a b = true)) (hy : o[k]? = some y) (hx : befC y x = true) : ∀ z ∈ o.take (k + 1), befC z x = true := by
  intro z hz
  rw [take_snoc hy] at hz
  rcases List.mem_append.1 hz with hz | hz
  · obtain ⟨j, hj⟩ := List.mem_iff_getElem?.1 hz
    have hjl := (List.getElem?_eq_some_iff.1 hj).1
    rw [List.length_take] at hjl
    rw [List.getElem?_take_of_lt (by omega)] at hj
    obtain ⟨p1, e1⟩ := List.getElem?_eq_some_iff.1 hj
    obtain ⟨p2, e2⟩ := List.getElem?_eq_some_iff.1 hy
    have := List.pairwise_iff_getElem.1 h j k p1 p2 (by omega)
    rw [e1, e2] at this
    rw [befC_iff] at *
    omega
  · rw [List.mem_singleton] at hz; subst hz; exact hx
theorem bef_drop {o : List GCube} {k : Nat} {y x : GCube} (h : o.Pairwise (fun a b => befC a b = true)) (hy : o[k]? = some y) (hx : befC x y = true) : ∀ z ∈ o.drop k, befC x z = true := by
  intro z hz
  obtain ⟨j, hj⟩ := List.mem_iff_getElem?.1 hz
  rw [List.getElem?_drop] at hj
  cases j with
  | zero => rw [Nat.add_zero, hy] at hj; cases hj; exact hx
  | succ j =>
    obtain ⟨p1, e1⟩ := List.getElem?_eq_some_iff.1 hj
    obtain ⟨p2, e2⟩ := List.getElem?_eq_some_iff.1 hy
    have := List.pairwise_iff_getElem.1 h k (k + (j + 1)) p2 p1 (by omega)
    rw [e1, e2] at this
    rw [befC_iff] at *
    omega
/-- Two small cubes of one cube stand at different places. -/
theorem cell_ne {b c d : GCube} {s : Int} (h : cellIn b s c) (g : cellIn b s d) (hn : c ≠ d) : befC c d = true ∨ befC d c = true := by
  rw [befC_iff, befC_iff]
  by_cases q : c.pWest = d.pWest ∧ c.pSouth = d.pSouth
  · exact absurd (cube_ext q.1 q.2 (by rw [h.2.1, g.2.1]) (by rw [h.2.2.1, g.2.2.1]) (by rw [h.2.2.2.1, g.2.2.2.1])) hn
  · omega
/-- No small cube lies in two parts. -/
theorem part_apart {b c : GCube} {s : Int} (hs : 1 ≤ s) {j k : Nat} (hj : j < 4) (hk : k < 4) (h : cellIn (partC b j) s c) (g : cellIn (partC b k) s c) : j = k := by
  obtain ⟨-, -, -, -, h1, h2⟩ := h
  obtain ⟨-, -, -, -, g1, g2⟩ := g
  unfold partC at *
  dsimp only at *
  generalize b.pSide / 2 = q at *
  have a : j = 0 ∨ j = 1 ∨ j = 2 ∨ j = 3 := by omega
  have c : k = 0 ∨ k = 1 ∨ k = 2 ∨ k = 3 := by omega
  rcases a with rfl | rfl | rfl | rfl <;> rcases c with rfl | rfl | rfl | rfl <;> simp at h1 h2 g1 g2 ⊢ <;> omega
theorem splitV_apart {b : GCube} {s : Int} (hs : 1 ≤ s) : (splitV b).Pairwise fun p q => ∀ c, cellIn p s c → cellIn q s c → False := by
  unfold splitV
  refine List.Pairwise.sublist List.filter_sublist ?_
  rw [List.pairwise_map]
  have h := List.pairwise_lt_range (n := 4)
  rw [List.pairwise_iff_getElem] at h ⊢
  intro i j hi hj hij c h1 h2
  rw [List.length_range] at hi hj
  rw [List.getElem_range] at h1 h2
  have := part_apart hs hi hj h1 h2
  omega
theorem allV_nodup {xs : List GArrival} {s : Int} (hs : okSide s) : ∀ (e : Nat) (b : GCube), okCb b → b.pSide = s * 2 ^ e → (allV xs e b).Nodup
  | 0, b, h, he => by
    unfold allV
    split
    · simp
    · simp
  | e + 1, b, h, he => by
    have sb := okSide_bd hs
    have e1 : s * 2 ^ (e + 1) = 2 * (s * 2 ^ e) := by rw [Int.pow_succ]; grind
    have hh : b.pSide / 2 = s * 2 ^ e := by rw [he, e1]; exact Int.mul_ediv_cancel_left _ (by omega)
    have h1 : b.pSide ≠ 1 := by
      have : (0 : Int) < 2 ^ e := Int.pow_pos (by omega)
      have : (1 : Int) * 1 ≤ s * 2 ^ e := Int.mul_le_mul sb.1 (show (1 : Int) ≤ 2 ^ e by omega) (by omega) (by omega)
      omega
    unfold allV
    split
    · rw [List.Nodup, List.pairwise_flatMap]
      have ok : ∀ p ∈ splitV b, okCb p ∧ p.pSide = s * 2 ^ e := by
        intro p hp
        obtain ⟨k, hk, rfl, ho⟩ := splitV_mem.1 hp
        exact ⟨(part_ok h h1 hk).2 ho, hh⟩
      refine ⟨fun p hp => allV_nodup hs e p (ok p hp).1 (ok p hp).2, ?_⟩
      have a := splitV_apart (b := b) sb.1
      refine a.imp_of_mem ?_
      intro p q hp hq hap c hc d hd hcd
      subst hcd
      exact hap c ((allV_mem hs e p (ok p hp).1 (ok p hp).2 c).1 hc).1 ((allV_mem hs e q (ok q hq).1 (ok q hq).2 c).1 hd).1
    · simp
/-- A list that was cut when it was too long. -/
def cutC (r full : List GCube) (most : Nat) : Prop := r <+: full ∧ (r = full ∨ most < r.length)
theorem cutC_self (l : List GCube) (most : Nat) : cutC l l most := ⟨List.prefix_refl _, Or.inl rfl⟩
theorem cutC_app {r a s b : List GCube} {most : Nat} (h : cutC r a most) (hl : r.length ≤ most) (g : cutC s b most) : cutC (r ++ s) (a ++ b) most := by
  have e : r = a := by rcases h.2 with e | e
                       · exact e
                       · omega
  subst e
  refine ⟨(List.prefix_append_right_inj _).2 g.1, ?_⟩
  rcases g.2 with q | q
  · exact Or.inl (by rw [q])
  · exact Or.inr (by rw [List.length_append]; omega)
theorem cutC_more {r a : List GCube} {most : Nat} (h : cutC r a most) (hl : most < r.length) (b : List GCube) : cutC r (a ++ b) most := ⟨h.1.trans (List.prefix_append _ _), Or.inr hl⟩
theorem cutC_len {r a : List GCube} {most : Nat} (h : cutC r a most) : most < r.length ↔ most < a.length := by
  have := h.1.length_le
  rcases h.2 with e | e
  · rw [e]
  · omega
/-- The small cube that has an origin. -/
theorem floor_ge {s x y : Int} (hs : 1 ≤ s) (hd : s ∣ y) (h : y ≤ x) : y ≤ s * (x / s) := by
  rcases Int.lt_or_le (s * (x / s)) y with q | q
  · have a := mult_lt (Int.dvd_mul_right s (x / s)) hd q
    have b := Int.mul_ediv_add_emod x s
    have c := Int.emod_lt_of_pos x (show 0 < s by omega)
    omega
  · exact q
theorem floor_le {s : Int} (hs : 1 ≤ s) (x : Int) : s * (x / s) ≤ x ∧ x ≤ s * (x / s) + s - 1 := by
  have b := Int.mul_ediv_add_emod x s
  have c := Int.emod_lt_of_pos x (show 0 < s by omega)
  have d := Int.emod_nonneg x (show s ≠ 0 by omega)
  omega
def cellC (s : Int) (b : GCube) (o : GOrigin) : GCube := ⟨s * (o.pX / s), s * (o.pY / s), s, b.pFrom, b.pTo⟩
theorem cellC_in {b : GCube} (h : okCb b) {s : Int} (hs : okSide s) (hd : s ∣ b.pSide) {o : GOrigin} (ho : okOr o) (hb : holdsC b o = true) : cellIn b s (cellC s b o) ∧ holdsC (cellC s b o) o = true := by
  have sb := okSide_bd hs
  obtain ⟨h1, h2, h3⟩ := of_decide_eq_true hb
  have fx := floor_le sb.1 o.pX
  have fy := floor_le sb.1 o.pY
  have d1 := Int.dvd_trans hd h.2.2.1.1
  have d2 := Int.dvd_trans hd h.2.2.1.2
  have a1 := floor_ge sb.1 d1 h1.1
  have a2 := floor_ge sb.1 d2 h2.1
  have c1 := mult_lt (Int.dvd_mul_right s (o.pX / s)) (Int.dvd_add d1 hd) (by omega)
  have c2 := mult_lt (Int.dvd_mul_right s (o.pY / s)) (Int.dvd_add d2 hd) (by omega)
  have x0 := h.2.1.1.1
  have y0 := h.2.1.2.1
  refine ⟨⟨⟨hs, ⟨?_, ?_⟩, ⟨Int.dvd_mul_right _ _, Int.dvd_mul_right _ _⟩, h.2.2.2⟩, rfl, rfl, rfl, ⟨a1, c1⟩, ⟨a2, c2⟩⟩, ?_⟩
  · show 0 ≤ s * (o.pX / s) ∧ s * (o.pX / s) ≤ 999; have := ho.1.1; omega
  · show 0 ≤ s * (o.pY / s) ∧ s * (o.pY / s) ≤ 999; have := ho.1.2; omega
  · unfold holdsC cellC
    apply decide_eq_true
    exact ⟨fx, fy, h3⟩
/-- An origin that is consistent lies in one of the cubes. -/
theorem loc_found {xs : List GArrival} {b : GCube} (h : okCb b) {s : Int} (hs : okSide s) {e : Nat} (he : b.pSide = s * 2 ^ e) {o : GOrigin} (ho : okOr o) (hb : holdsC b o = true) (hf : ∀ a ∈ xs, fitV a o = true) : ∃ c, c ∈ allV xs e b ∧ holdsC c o = true := by
  obtain ⟨g1, g2⟩ := cellC_in h hs (by rw [he]; exact Int.dvd_mul_right _ _) ho hb
  exact ⟨_, (allV_mem hs e b h he _).2 ⟨g1, canV_fit g2 hf⟩, g2⟩
/-- The parts. -/
theorem split_len {b : GCube} (h : okCb b) (h1 : b.pSide ≠ 1) : 1 ≤ (splitV b).length ∧ (splitV b).length ≤ 4 := by
  constructor
  · have : partC b 0 ∈ splitV b := splitV_mem.2 ⟨0, by omega, rfl, by
      unfold onMap partC
      apply decide_eq_true
      have := h.2.1
      simp
      omega⟩
    exact List.length_pos_of_mem this
  · unfold splitV
    refine Nat.le_trans (List.length_filter_le _ _) ?_
    rw [List.length_map, List.length_range]
    exact Nat.le_refl _
theorem split_first {b : GCube} (h : okCb b) (h1 : b.pSide ≠ 1) : ∃ c, c ∈ splitV b ∧ holdsC c ⟨b.pWest, b.pSouth, b.pTo⟩ = true := by
  obtain ⟨hs, e⟩ := half_side h.1 h1
  have hb := okSide_bd hs
  have p := h.2.1
  have t := h.2.2.2
  refine ⟨partC b 0, splitV_mem.2 ⟨0, by omega, rfl, ?_⟩, ?_⟩
  · unfold onMap partC
    apply decide_eq_true
    simp
    omega
  · unfold holdsC partC
    apply decide_eq_true
    simp
    omega
/-- Places at which some origin is consistent. -/
def frV (xs : List GArrival) (x y f : Int) (k : Nat) : Int := (xs.take k).foldl (fun m a => max m (loT a x y)) f
def toV (xs : List GArrival) (x y t : Int) (k : Nat) : Int := (xs.take k).foldl (fun m a => min m (hiT a x y)) t
theorem frV_succ {xs : List GArrival} {k : Nat} {a : GArrival} (h : xs[k]? = some a) (x y f : Int) : frV xs x y f (k + 1) = max (frV xs x y f k) (loT a x y) := by unfold frV; rw [take_snoc h, List.foldl_append]; rfl
theorem toV_succ {xs : List GArrival} {k : Nat} {a : GArrival} (h : xs[k]? = some a) (x y t : Int) : toV xs x y t (k + 1) = min (toV xs x y t k) (hiT a x y) := by unfold toV; rw [take_snoc h, List.foldl_append]; rfl
theorem frV_ge {xs : List GArrival} (x y f : Int) : ∀ k, k ≤ xs.length → f ≤ frV xs x y f k ∧ ∀ j a, j < k → xs[j]? = some a → loT a x y ≤ frV xs x y f k
  | 0, _ => ⟨Int.le_refl _, fun j a h => by omega⟩
  | k + 1, hk => by
    have i := frV_ge (xs := xs) x y f k (by omega)
    obtain ⟨a, ha⟩ := get_of_lt (l := xs) (k := k) (by omega)
    rw [frV_succ ha]
    refine ⟨by omega, fun j c hj hc => ?_⟩
    by_cases q : j = k
    · subst q; rw [ha] at hc; cases hc; omega
    · have := i.2 j c (by omega) hc; omega
theorem toV_le {xs : List GArrival} (x y t : Int) : ∀ k, k ≤ xs.length → toV xs x y t k ≤ t ∧ ∀ j a, j < k → xs[j]? = some a → toV xs x y t k ≤ hiT a x y
  | 0, _ => ⟨Int.le_refl _, fun j a h => by omega⟩
  | k + 1, hk => by
    have i := toV_le (xs := xs) x y t k (by omega)
    obtain ⟨a, ha⟩ := get_of_lt (l := xs) (k := k) (by omega)
    rw [toV_succ ha]
    refine ⟨by omega, fun j c hj hc => ?_⟩
    by_cases q : j = k
    · subst q; rw [ha] at hc; cases hc; omega
    · have := i.2 j c (by omega) hc; omega
def atV (xs : List GArrival) (x y f t : Int) : Bool := decide (frV xs x y f xs.length ≤ toV xs x y t xs.length)
/-- Where that holds some origin is consistent. -/
theorem atV_fit {xs : List GArrival} (h : okArs xs) {x y f t : Int} (hx : 0 ≤ x ∧ x ≤ 999) (hy : 0 ≤ y ∧ y ≤ 999) (hf : 0 ≤ f) (ht : t ≤ 1000000) (g : atV xs x y f t = true) : ∃ n, (f ≤ n ∧ n ≤ t) ∧ ∀ a ∈ xs, fitV a ⟨x, y, n⟩ = true := by
  have g := of_decide_eq_true g
  have a := frV_ge (xs := xs) x y f xs.length (Nat.le_refl _)
  have b := toV_le (xs := xs) x y t xs.length (Nat.le_refl _)
  refine ⟨frV xs x y f xs.length, by omega, fun c hc => ?_⟩
  obtain ⟨j, hj⟩ := List.mem_iff_getElem?.1 hc
  have hl := (List.getElem?_eq_some_iff.1 hj).1
  have p := a.2 j c hl hj
  have q := b.2 j c hl hj
  rw [fit_ticks (okArs_mem h hc) (o := ⟨x, y, _⟩) ⟨⟨hx, hy⟩, by show 0 ≤ frV xs x y f xs.length ∧ frV xs x y f xs.length ≤ 1000000; omega⟩]
  apply decide_eq_true
  exact ⟨p, by show frV xs x y f xs.length ≤ hiT c x y; omega⟩
def spanN (w s : Int) : Nat := (min s (1000 - w)).toNat
def rowC (xs : List GArrival) (b : GCube) (x : Int) : Nat → Int
  | 0 => 0
  | j + 1 => if atV xs x (b.pSouth + j) b.pFrom b.pTo then rowC xs b x j + 1 else rowC xs b x j
def allC (xs : List GArrival) (b : GCube) : Nat → Int
  | 0 => 0
  | i + 1 => allC xs b i + rowC xs b (b.pWest + i) (spanN b.pSouth b.pSide)
def numC (xs : List GArrival) (b : GCube) : Int := allC xs b (spanN b.pWest b.pSide)
theorem rowC_bd (xs : List GArrival) (b : GCube) (x : Int) : ∀ j, 0 ≤ rowC xs b x j ∧ rowC xs b x j ≤ j
  | 0 => by show (0 : Int) ≤ 0 ∧ (0 : Int) ≤ 0; omega
  | j + 1 => by
    have := rowC_bd xs b x j
    unfold rowC
    split <;> omega
theorem allC_bd (xs : List GArrival) (b : GCube) : ∀ i, 0 ≤ allC xs b i ∧ allC xs b i ≤ (spanN b.pSouth b.pSide : Int) * i
  | 0 => by show (0 : Int) ≤ 0 ∧ (0 : Int) ≤ (spanN b.pSouth b.pSide : Int) * 0; omega
  | i + 1 => by
    have a := allC_bd xs b i
    have c := rowC_bd xs b (b.pWest + i) (spanN b.pSouth b.pSide)
    have e : (spanN b.pSouth b.pSide : Int) * ((i + 1 : Nat) : Int) = (spanN b.pSouth b.pSide : Int) * i + spanN b.pSouth b.pSide := by grind
    rw [e]
    show 0 ≤ allC xs b i + rowC xs b (b.pWest + i) (spanN b.pSouth b.pSide) ∧ allC xs b i + rowC xs b (b.pWest + i) (spanN b.pSouth b.pSide) ≤ _
    omega
theorem numC_bd (xs : List GArrival) {b : GCube} (h : okCb b) : 0 ≤ numC xs b ∧ numC xs b ≤ b.pSide * b.pSide := by
  have a := allC_bd xs b (spanN b.pWest b.pSide)
  have sb := okSide_bd h.1
  have p := h.2.1
  have e1 : (spanN b.pWest b.pSide : Int) ≤ b.pSide := by unfold spanN; omega
  have e2 : (spanN b.pSouth b.pSide : Int) ≤ b.pSide := by unfold spanN; omega
  have := Int.mul_le_mul e2 e1 (by omega) (by omega)
  unfold numC
  omega
theorem rowC_pos {xs : List GArrival} {b : GCube} {x : Int} : ∀ j, 0 < rowC xs b x j → ∃ i, i < j ∧ atV xs x (b.pSouth + (i : Nat)) b.pFrom b.pTo = true
  | 0, h => by
    have : (0 : Int) < 0 := h
    omega
  | j + 1, h => by
    unfold rowC at h
    split at h
    · rename_i q; exact ⟨j, by omega, q⟩
    · obtain ⟨i, hi, g⟩ := rowC_pos j h
      exact ⟨i, by omega, g⟩
theorem allC_pos {xs : List GArrival} {b : GCube} : ∀ k, 0 < allC xs b k → ∃ i, i < k ∧ 0 < rowC xs b (b.pWest + (i : Nat)) (spanN b.pSouth b.pSide)
  | 0, h => by
    have : (0 : Int) < 0 := h
    omega
  | k + 1, h => by
    by_cases q : 0 < rowC xs b (b.pWest + (k : Nat)) (spanN b.pSouth b.pSide)
    · exact ⟨k, by omega, q⟩
    · have h : 0 < allC xs b k + rowC xs b (b.pWest + k) (spanN b.pSouth b.pSide) := h
      obtain ⟨i, hi, g⟩ := allC_pos (xs := xs) (b := b) k (by omega)
      exact ⟨i, by omega, g⟩
/-- A cube with such a place is possible. -/
theorem numC_can {xs : List GArrival} (h : okArs xs) {b : GCube} (hb : okCb b) (hn : 0 < numC xs b) : canV xs b = true := by
  obtain ⟨i, hi, h1⟩ := allC_pos _ hn
  obtain ⟨j, hj, h2⟩ := rowC_pos _ h1
  have sb := okSide_bd hb.1
  have p := hb.2.1
  have t := hb.2.2.2
  unfold spanN at hi hj
  obtain ⟨n, hn, hf⟩ := atV_fit h (x := b.pWest + i) (y := b.pSouth + j) (by omega) (by omega) (by omega) (by omega) h2
  refine canV_fit (o := ⟨b.pWest + i, b.pSouth + j, n⟩) ?_ hf
  unfold holdsC
  apply decide_eq_true
  show (b.pWest ≤ b.pWest + i ∧ b.pWest + i ≤ b.pWest + b.pSide - 1) ∧ (b.pSouth ≤ b.pSouth + j ∧ b.pSouth + j ≤ b.pSouth + b.pSide - 1) ∧ (b.pFrom ≤ n ∧ n ≤ b.pTo)
  omega
/-- Consistent: all of them vote. -/
def consV (xs : List GArrival) (o : GOrigin) : Bool := xs.all (fitV · o)
theorem consV_vot (xs : List GArrival) (o : GOrigin) : consV xs o = decide ((votV xs o).length = xs.length) := by
  unfold consV votV
  rw [List.length_map]
  apply Bool.eq_iff_iff.2
  rw [List.all_eq_true, decide_eq_true_eq, List.length_filter_eq_length_iff]
end Go.Proofs.Ytoogofceoinniaa
