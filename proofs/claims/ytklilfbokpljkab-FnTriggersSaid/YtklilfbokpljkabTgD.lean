/- Triggers: what the functions answer. -/
import Derived.Test.YtklilfbokpljkabTgB
namespace Go.Proofs.Ytklilfbokpljkab
open Go.ChangeShapes Go.WideShapes Go.ChangeAt Go.RowKit Go.ChangeMaps
set_option linter.unusedSimpArgs false
set_option linter.unusedVariables false
set_option linter.unusedSimpArgs false
set_option linter.unusedVariables false

theorem retI {a b : Int} {c d : Bool} (h1 : a = b) (h2 : c = d) : Ending.returned (.tuple #[.int .i64 a, .bool c]) = .returned (.tuple #[.int .i64 b, .bool d]) := by rw [h1, h2]
theorem retII {a b a' b' : Int} {c d : Bool} (h1 : a = a') (h2 : b = b') (h3 : c = d) : Ending.returned (.tuple #[.int .i64 a, .int .i64 b, .bool c]) = .returned (.tuple #[.int .i64 a', .int .i64 b', .bool d]) := by rw [h1, h2, h3]
theorem retIII {a b x a' b' x' : Int} {c d : Bool} (h1 : a = a') (h2 : b = b') (hx : x = x') (h3 : c = d) : Ending.returned (.tuple #[.int .i64 a, .int .i64 b, .int .i64 x, .bool c]) = .returned (.tuple #[.int .i64 a', .int .i64 b', .int .i64 x', .bool d]) := by rw [h1, h2, hx, h3]
theorem retB {a b c d : Bool} (h1 : a = b) (h2 : c = d) : Ending.returned (.tuple #[.bool a, .bool c]) = .returned (.tuple #[.bool b, .bool d]) := by rw [h1, h2]

-- the ratio at a place
def okRa (xs : List Int) (s : GSetting) (p : Int) : Bool := goodTg xs s && decide (s.pLong - 1 ≤ p ∧ p ≤ (xs.length : Int) - 1)
def numRa (xs : List Int) (s : GSetting) (p : Int) : Int := if okRa xs s p then numR (nT xs s p.toNat) (dT xs s p.toNat) else 0
def denRa (xs : List Int) (s : GSetting) (p : Int) : Int := if okRa xs s p then denR (nT xs s p.toNat) (dT xs s p.toNat) else 0
theorem okRa_yes {xs : List Int} {s : GSetting} {p : Int} (h : okRa xs s p = true) : goodTg xs s = true ∧ (s.pLong - 1 ≤ p ∧ p ≤ (xs.length : Int) - 1) := by
  unfold okRa at h
  rw [Bool.and_eq_true] at h
  exact ⟨h.1, of_decide_eq_true h.2⟩
theorem noRa {xs : List Int} {s : GSetting} {p : Int} (h : okRa xs s p = false) : Ending.returned (.tuple #[.int .i64 0, .int .i64 0, .bool false]) = .returned (.tuple #[.int .i64 (numRa xs s p), .int .i64 (denRa xs s p), .bool (okRa xs s p)]) := by
  unfold numRa denRa; rw [h]; rfl
theorem yesRa {xs : List Int} {s : GSetting} {p : Int} {a b : Int} (h : okRa xs s p = true) (ha : numR (nT xs s p.toNat) (dT xs s p.toNat) = a) (hb : denR (nT xs s p.toNat) (dT xs s p.toNat) = b) :
    Ending.returned (.tuple #[.int .i64 a, .int .i64 b, .bool true]) = .returned (.tuple #[.int .i64 (numRa xs s p), .int .i64 (denRa xs s p), .bool (okRa xs s p)]) := by
  unfold numRa denRa; rw [h, if_pos rfl, if_pos rfl, ha, hb]
-- the times
def trgT (xs : List Int) (s : GSetting) : List (Int × Int) := if goodTg xs s then timesT xs s else []
def onsT (xs : List Int) (s : GSetting) : List Int := if goodTg xs s then (timesT xs s).map (·.1) else []
theorem trgT_len (xs : List Int) (s : GSetting) (hn : xs.length ≤ 1048576) : (trgT xs s).length ≤ 1048576 := by
  have := timesT_len xs s
  unfold trgT; split
  · omega
  · simp
theorem onsT_len (xs : List Int) (s : GSetting) (hn : xs.length ≤ 1048576) : (onsT xs s).length ≤ 1048576 := by
  have := timesT_len xs s
  unfold onsT; split
  · rw [List.length_map]; omega
  · simp
-- on at a place
def inP (l : List (Int × Int)) (p : Int) : Bool := l.any fun q => decide (q.1 ≤ p ∧ p < q.2)
theorem inP_take {l : List (Int × Int)} {k : Nat} {q : Int × Int} (h : l[k]? = some q) (p : Int) : inP (l.take (k + 1)) p = (inP (l.take k) p || decide (q.1 ≤ p ∧ p < q.2)) := by
  unfold inP
  rw [take_snoc h, List.any_append, List.any_cons, List.any_nil, Bool.or_false]
theorem inP_hit {l : List (Int × Int)} {k : Nat} {q : Int × Int} (h : l[k]? = some q) {p : Int} (hp : q.1 ≤ p ∧ p < q.2) : inP l p = true :=
  List.any_eq_true.2 ⟨q, List.mem_of_getElem? h, decide_eq_true hp⟩
def okAt (xs : List Int) (s : GSetting) (p : Int) : Bool := goodTg xs s && decide (0 ≤ p ∧ p ≤ (xs.length : Int) - 1)
def isOnT (xs : List Int) (s : GSetting) (p : Int) : Bool := okAt xs s p && inP (timesT xs s) p
theorem okAt_yes {xs : List Int} {s : GSetting} {p : Int} (h : okAt xs s p = true) : goodTg xs s = true ∧ (0 ≤ p ∧ p ≤ (xs.length : Int) - 1) := by
  unfold okAt at h
  rw [Bool.and_eq_true] at h
  exact ⟨h.1, of_decide_eq_true h.2⟩
theorem noAt {xs : List Int} {s : GSetting} {p : Int} (h : okAt xs s p = false) : Ending.returned (.tuple #[.bool false, .bool false]) = .returned (.tuple #[.bool (isOnT xs s p), .bool (okAt xs s p)]) := by
  unfold isOnT; rw [h]; rfl
theorem yesAt {xs : List Int} {s : GSetting} {p : Int} {a : Bool} (h : okAt xs s p = true) (ha : inP (timesT xs s) p = a) : Ending.returned (.tuple #[.bool a, .bool true]) = .returned (.tuple #[.bool (isOnT xs s p), .bool (okAt xs s p)]) := by
  unfold isOnT; rw [h, ha]; rfl
-- the longest time
def stepP (b q : Int × Int) : Int × Int := if b.2 < q.2 - q.1 then (q.1, q.2 - q.1) else b
def bstP (l : List (Int × Int)) : Int × Int := l.foldl stepP (0, 0)
theorem bstP_take {l : List (Int × Int)} {k : Nat} {q : Int × Int} (h : l[k]? = some q) : bstP (l.take (k + 1)) = stepP (bstP (l.take k)) q := by
  unfold bstP
  rw [take_snoc h, List.foldl_append]
  rfl
def atLo (xs : List Int) (s : GSetting) : Int := (bstP (trgT xs s)).1
def lenLo (xs : List Int) (s : GSetting) : Int := (bstP (trgT xs s)).2
def okLo (xs : List Int) (s : GSetting) : Bool := decide (0 < lenLo xs s)
theorem noLo {xs : List Int} {s : GSetting} (h : goodTg xs s = false) : Ending.returned (.tuple #[.int .i64 0, .int .i64 0, .bool false]) = .returned (.tuple #[.int .i64 (atLo xs s), .int .i64 (lenLo xs s), .bool (okLo xs s)]) := by
  unfold okLo atLo lenLo trgT; rw [h]; rfl
theorem yesLo {xs : List Int} {s : GSetting} {a b : Int} (h : goodTg xs s = true) (hb : bstP (timesT xs s) = (a, b)) : Ending.returned (.tuple #[.int .i64 a, .int .i64 b, .bool (decide (0 < b))]) = .returned (.tuple #[.int .i64 (atLo xs s), .int .i64 (lenLo xs s), .bool (okLo xs s)]) := by
  unfold okLo atLo lenLo trgT; rw [h, if_pos rfl, hb]
theorem bstP_bd {n : Int} (hn : 0 ≤ n) : ∀ (l : List (Int × Int)), (∀ q ∈ l, 0 ≤ q.1 ∧ q.1 < q.2 ∧ q.2 ≤ n) → ∀ b : Int × Int, (0 ≤ b.1 ∧ b.1 ≤ n ∧ 0 ≤ b.2 ∧ b.2 ≤ n) → (0 ≤ (l.foldl stepP b).1 ∧ (l.foldl stepP b).1 ≤ n ∧ 0 ≤ (l.foldl stepP b).2 ∧ (l.foldl stepP b).2 ≤ n)
  | [], _, b, hb => hb
  | q :: l, h, b, hb => by
    refine bstP_bd hn l (fun r hr => h r (List.mem_cons_of_mem _ hr)) _ ?_
    have := h q (List.mem_cons_self ..)
    unfold stepP
    split
    · show 0 ≤ q.1 ∧ q.1 ≤ n ∧ 0 ≤ q.2 - q.1 ∧ q.2 - q.1 ≤ n; omega
    · exact hb
theorem bst_bd (xs : List Int) (s : GSetting) (k : Nat) : 0 ≤ (bstP ((timesT xs s).take k)).1 ∧ (bstP ((timesT xs s).take k)).1 ≤ (xs.length : Int) ∧ 0 ≤ (bstP ((timesT xs s).take k)).2 ∧ (bstP ((timesT xs s).take k)).2 ≤ (xs.length : Int) :=
  bstP_bd (by omega) _ (fun q hq => by have := timesT_mem xs s (List.mem_of_mem_take hq); omega) _ (by show (0 : Int) ≤ 0 ∧ (0 : Int) ≤ xs.length ∧ (0 : Int) ≤ 0 ∧ (0 : Int) ≤ xs.length; omega)
-- the greatest ratio
def gtT (xs : List Int) (s : GSetting) (p b : Nat) : Bool := decide (nT xs s b * dT xs s p < nT xs s p * dT xs s b)
def grT (xs : List Int) (s : GSetting) : Nat → Nat
  | 0 => plT s
  | k + 1 => if gtT xs s (plT s + k + 1) (grT xs s k) then plT s + k + 1 else grT xs s k
theorem grT_le (xs : List Int) (s : GSetting) : ∀ k, plT s ≤ grT xs s k ∧ grT xs s k ≤ plT s + k
  | 0 => ⟨Nat.le_refl _, Nat.le_refl _⟩
  | k + 1 => by
    have := grT_le xs s k
    unfold grT
    split <;> omega
def okGr (xs : List Int) (s : GSetting) : Bool := goodTg xs s && decide (s.pLong ≤ (xs.length : Int))
def bstR (xs : List Int) (s : GSetting) : Nat := grT xs s (xs.length - s.pLong.toNat)
def atGr (xs : List Int) (s : GSetting) : Int := if okGr xs s then (bstR xs s : Nat) else 0
def numGr (xs : List Int) (s : GSetting) : Int := if okGr xs s then numR (nT xs s (bstR xs s)) (dT xs s (bstR xs s)) else 0
def denGr (xs : List Int) (s : GSetting) : Int := if okGr xs s then denR (nT xs s (bstR xs s)) (dT xs s (bstR xs s)) else 0
theorem okGr_yes {xs : List Int} {s : GSetting} (h : okGr xs s = true) : goodTg xs s = true ∧ s.pLong ≤ (xs.length : Int) := by
  unfold okGr at h
  rw [Bool.and_eq_true] at h
  exact ⟨h.1, of_decide_eq_true h.2⟩
theorem noGr {xs : List Int} {s : GSetting} (h : okGr xs s = false) : Ending.returned (.tuple #[.int .i64 0, .int .i64 0, .int .i64 0, .bool false]) = .returned (.tuple #[.int .i64 (atGr xs s), .int .i64 (numGr xs s), .int .i64 (denGr xs s), .bool (okGr xs s)]) := by
  unfold atGr numGr denGr; rw [h]; rfl
theorem yesGr {xs : List Int} {s : GSetting} {k : Nat} {a b c : Int} (h : okGr xs s = true) (hk : bstR xs s = k) (ha : (k : Int) = a) (hb : numR (nT xs s k) (dT xs s k) = b) (hc : denR (nT xs s k) (dT xs s k) = c) :
    Ending.returned (.tuple #[.int .i64 a, .int .i64 b, .int .i64 c, .bool true]) = .returned (.tuple #[.int .i64 (atGr xs s), .int .i64 (numGr xs s), .int .i64 (denGr xs s), .bool (okGr xs s)]) := by
  unfold atGr numGr denGr; rw [h, if_pos rfl, if_pos rfl, if_pos rfl, hk, hb, hc, ha]
-- the least threshold
def noneT (xs : List Int) (s : GSetting) (t : Nat) : Bool := decide (onT xs s (t : Int) = xs.length)
def leT (xs : List Int) (s : GSetting) : Nat := nxT (noneT xs s) 1001 s.pOff.toNat
def okLe (xs : List Int) (s : GSetting) : Bool := goodTg xs s && decide (leT xs s < 1001)
def numLe (xs : List Int) (s : GSetting) : Int := if okLe xs s then (leT xs s : Nat) else 0
theorem noLe {xs : List Int} {s : GSetting} (h : okLe xs s = false) : Ending.returned (.tuple #[.int .i64 0, .bool false]) = .returned (.tuple #[.int .i64 (numLe xs s), .bool (okLe xs s)]) := by
  unfold numLe; rw [h]; rfl
theorem yesLe {xs : List Int} {s : GSetting} {k : Nat} (hg : goodTg xs s = true) (hk : leT xs s = k) (h : k < 1001) : Ending.returned (.tuple #[.int .i64 (k : Int), .bool true]) = .returned (.tuple #[.int .i64 (numLe xs s), .bool (okLe xs s)]) := by
  have e : okLe xs s = true := by unfold okLe; rw [hg, hk, decide_eq_true h]; rfl
  unfold numLe; rw [e, if_pos rfl, hk]
def setOn (s : GSetting) (t : Int) : GSetting := ⟨s.pShort, s.pLong, t, s.pOff⟩
theorem setOn_ok {s : GSetting} (h : okS s) {t : Int} (h0 : s.pOff ≤ t) (h1 : t ≤ 1000) : okS (setOn s t) := by
  obtain ⟨a, b, c, d⟩ := h
  exact ⟨a, b, ⟨by show 10 ≤ t; omega, h1⟩, d.1, h0⟩
theorem setOn_nil (xs : List Int) (s : GSetting) (t : Nat) : decide (timesT xs (setOn s (t : Int)) = []) = noneT xs s t := by
  unfold noneT
  rw [decide_eq_decide]
  exact timesT_nil xs (setOn s t)
theorem noneT_iff (xs : List Int) (s : GSetting) (t : Nat) : noneT xs s t = true ↔ ∀ q, plT s ≤ q → q < xs.length → loudT xs s (t : Int) q = false := by
  unfold noneT
  rw [decide_eq_true_iff]
  exact nxT_all
-- the first motion
def sgnT (x y : Int) : Int := if x < y then -1 else if y < x then 1 else 0
def okFm (xs : List Int) (s : GSetting) : Bool := goodTg xs s && decide (onT xs s s.pOn < xs.length)
def numFm (xs : List Int) (s : GSetting) : Int := if okFm xs s then sgnT (xs.getD (onT xs s s.pOn) 0) (xs.getD (onT xs s s.pOn - 1) 0) else 0
theorem noFm {xs : List Int} {s : GSetting} (h : okFm xs s = false) : Ending.returned (.tuple #[.int .i64 0, .bool false]) = .returned (.tuple #[.int .i64 (numFm xs s), .bool (okFm xs s)]) := by
  unfold numFm; rw [h]; rfl
theorem yesFm {xs : List Int} {s : GSetting} {k : Nat} {x y r : Int} (hg : goodTg xs s = true) (hk : onT xs s s.pOn = k) (h : k < xs.length) (hx : xs[k]? = some x) (hy : xs[k - 1]? = some y) (hr : sgnT x y = r) :
    Ending.returned (.tuple #[.int .i64 r, .bool true]) = .returned (.tuple #[.int .i64 (numFm xs s), .bool (okFm xs s)]) := by
  have e : okFm xs s = true := by unfold okFm; rw [hg, hk, decide_eq_true h]; rfl
  unfold numFm; rw [e, if_pos rfl, hk]
  simp only [List.getD, hx, hy, Option.getD_some, hr]
end Go.Proofs.Ytklilfbokpljkab
