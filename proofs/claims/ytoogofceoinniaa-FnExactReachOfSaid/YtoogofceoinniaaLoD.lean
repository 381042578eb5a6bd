/- Location by boxes: what the functions answer, and what the laws ask of it. -/
import Derived.Test.YtoogofceoinniaaLoM
import Derived.Test.YtoogofceoinniaaVoD
namespace Go.Proofs.Ytoogofceoinniaa
open Go.ChangeShapes Go.WideShapes Go.ChangeAt Go.RowKit Go.ChangeMaps
set_option linter.unusedSimpArgs false
set_option linter.unusedVariables false
set_option linter.unusedSimpArgs false
set_option linter.unusedVariables false

noncomputable def sideB (s : Int) : Bool := @decide (okSide s) (Classical.propDecidable _)
theorem sideB_yes {s : Int} (h : sideB s = true) : okSide s := by unfold sideB at h; exact @of_decide_eq_true _ (Classical.propDecidable _) h
theorem sideB_mk {s : Int} (h : okSide s) : sideB s = true := by unfold sideB; exact @decide_eq_true _ (Classical.propDecidable _) h
theorem sideB_no {s : Int} (h : ¬ okSide s) : sideB s = false := by unfold sideB; exact @decide_eq_false _ (Classical.propDecidable _) h
/-- Arrivals that are valid, and some. -/
noncomputable def lstB (xs : List GArrival) : Bool := goodAr xs && decide (0 < xs.length)
theorem lstB_yes {xs : List GArrival} (h : lstB xs = true) : okArs xs ∧ 0 < xs.length := by
  unfold lstB at h
  rw [Bool.and_eq_true, decide_eq_true_eq] at h
  exact ⟨goodAr_yes h.1, h.2⟩
-- the reach
noncomputable def okRc (b : GCube) (x y : Int) : Bool := goodCb b && plcB x y
noncomputable def loRc (b : GCube) (x y : Int) : Int := if okRc b x y then loR b x y else 0
noncomputable def hiRc (b : GCube) (x y : Int) : Int := if okRc b x y then hiR b x y else 0
theorem okRc_yes {b : GCube} {x y : Int} (h : okRc b x y = true) : okCb b ∧ (0 ≤ x ∧ x ≤ 999) ∧ (0 ≤ y ∧ y ≤ 999) := by
  unfold okRc at h
  rw [Bool.and_eq_true] at h
  exact ⟨goodCb_yes h.1, plcB_iff.1 h.2⟩
theorem loRc_no {b : GCube} {x y : Int} (h : okRc b x y = false) : loRc b x y = 0 := by unfold loRc; rw [h]; rfl
theorem hiRc_no {b : GCube} {x y : Int} (h : okRc b x y = false) : hiRc b x y = 0 := by unfold hiRc; rw [h]; rfl
theorem loRc_yes {b : GCube} {x y : Int} (h : okRc b x y = true) : loRc b x y = loR b x y := by unfold loRc; rw [h]; rfl
theorem hiRc_yes {b : GCube} {x y : Int} (h : okRc b x y = true) : hiRc b x y = hiR b x y := by unfold hiRc; rw [h]; rfl
theorem rc_order {b : GCube} {x y : Int} (h : okRc b x y = true) : loRc b x y ≤ hiRc b x y := by
  obtain ⟨h1, h2, h3⟩ := okRc_yes h
  rw [loRc_yes h, hiRc_yes h]
  exact (reach_bd h1 h2 h3).2.1
-- is it possible
noncomputable def okPo (xs : List GArrival) (b : GCube) : Bool := lstB xs && goodCb b
noncomputable def resPo (xs : List GArrival) (b : GCube) : Bool := okPo xs b && canV xs b
theorem okPo_mk {xs : List GArrival} {b : GCube} (h : lstB xs = true) (g : okCb b) : okPo xs b = true := by unfold okPo; rw [h, goodCb_mk g]; rfl
theorem resPo_mk {xs : List GArrival} {b : GCube} (h : lstB xs = true) (g : okCb b) (c : canV xs b = true) : resPo xs b = true := by unfold resPo; rw [okPo_mk h g, c]; rfl
-- the parts
noncomputable def okSp (b : GCube) : Bool := goodCb b && decide (b.pSide ≠ 1)
noncomputable def resSp (b : GCube) : List GCube := if okSp b then splitV b else []
theorem okSp_yes {b : GCube} (h : okSp b = true) : okCb b ∧ b.pSide ≠ 1 := by
  unfold okSp at h
  rw [Bool.and_eq_true, decide_eq_true_eq] at h
  exact ⟨goodCb_yes h.1, h.2⟩
theorem resSp_no {b : GCube} (h : okSp b = false) : resSp b = [] := by unfold resSp; rw [h]; rfl
theorem resSp_yes {b : GCube} (h : okSp b = true) : resSp b = splitV b := by unfold resSp; rw [h]; rfl
theorem resSp_len (b : GCube) : szsCube (resSp b) ≤ 1048576 := by
  rw [szsCube_split]
  cases h : okSp b with
  | false => rw [resSp_no h]; simp
  | true =>
    rw [resSp_yes h]
    have := (split_len (okSp_yes h).1 (okSp_yes h).2).2
    omega
-- the location
noncomputable def askLo (xs : List GArrival) (b : GCube) (s : Int) : Bool := lstB xs && (goodCb b && (sideB s && decide (s ≤ b.pSide)))
theorem askLo_yes {xs : List GArrival} {b : GCube} {s : Int} (h : askLo xs b s = true) : lstB xs = true ∧ okCb b ∧ okSide s ∧ s ≤ b.pSide := by
  unfold askLo at h
  rw [Bool.and_eq_true, Bool.and_eq_true, Bool.and_eq_true, decide_eq_true_eq] at h
  exact ⟨h.1, goodCb_yes h.2.1, sideB_yes h.2.2.1, h.2.2.2⟩
theorem exp_ex {s t : Int} (hs : okSide s) (ht : okSide t) (h : s ≤ t) : ∃ e : Nat, t = s * 2 ^ e := by
  obtain ⟨m, hm, rfl⟩ := hs
  obtain ⟨n, hn, rfl⟩ := ht
  by_cases hmn : m ≤ n
  · refine ⟨n - m, ?_⟩
    rw [← Int.pow_add, Nat.add_sub_cancel' hmn]
  · exfalso
    have a : m = 0 ∨ m = 1 ∨ m = 2 ∨ m = 3 ∨ m = 4 ∨ m = 5 ∨ m = 6 ∨ m = 7 ∨ m = 8 ∨ m = 9 := by omega
    have b : n = 0 ∨ n = 1 ∨ n = 2 ∨ n = 3 ∨ n = 4 ∨ n = 5 ∨ n = 6 ∨ n = 7 ∨ n = 8 ∨ n = 9 := by omega
    rcases a with rfl | rfl | rfl | rfl | rfl | rfl | rfl | rfl | rfl | rfl <;> rcases b with rfl | rfl | rfl | rfl | rfl | rfl | rfl | rfl | rfl | rfl <;> first | omega | (exact absurd h (by decide))
theorem pow_two_inj {s : Int} (hs : okSide s) {e f : Nat} (h : s * 2 ^ e = s * 2 ^ f) : e = f := by
  have := (okSide_bd hs).1
  have a : (2 : Int) ^ e = 2 ^ f := Int.eq_of_mul_eq_mul_left (by omega) h
  have b : (2 : Nat) ^ e = 2 ^ f := by exact_mod_cast a
  rcases Nat.lt_trichotomy e f with g | g | g
  · have := Nat.pow_lt_pow_right (a := 2) (by omega) g
    omega
  · exact g
  · have := Nat.pow_lt_pow_right (a := 2) (by omega) g
    omega
/-- How often a side is halved. -/
noncomputable def expC (b : GCube) (s : Int) : Nat := @dite _ (∃ e : Nat, b.pSide = s * 2 ^ e) (Classical.propDecidable _) (fun h => Classical.choose h) (fun _ => 0)
theorem expC_is {b : GCube} {s : Int} (hs : okSide s) {e : Nat} (h : b.pSide = s * 2 ^ e) : expC b s = e := by
  have hx : ∃ e : Nat, b.pSide = s * 2 ^ e := ⟨e, h⟩
  unfold expC
  rw [dif_pos hx]
  exact pow_two_inj hs ((Classical.choose_spec hx).symm.trans h)
theorem expC_eq {xs : List GArrival} {b : GCube} {s : Int} (h : askLo xs b s = true) : b.pSide = s * 2 ^ expC b s := by
  obtain ⟨_, h2, h3, h4⟩ := askLo_yes h
  obtain ⟨e, he⟩ := exp_ex h3 h2.1 h4
  rw [expC_is h3 he]
  exact he
noncomputable def fullV (xs : List GArrival) (b : GCube) (s : Int) : List GCube := allV xs (expC b s) b
theorem fullV_mem {xs : List GArrival} {b : GCube} {s : Int} (h : askLo xs b s = true) (c : GCube) : c ∈ fullV xs b s ↔ cellIn b s c ∧ canV xs c = true := by
  obtain ⟨_, h2, h3, _⟩ := askLo_yes h
  exact allV_mem h3 _ b h2 (expC_eq h) c
theorem fullV_nodup {xs : List GArrival} {b : GCube} {s : Int} (h : askLo xs b s = true) : (fullV xs b s).Nodup := by
  obtain ⟨_, h2, h3, _⟩ := askLo_yes h
  exact allV_nodup h3 _ b h2 (expC_eq h)
/-- Cubes in their order. -/
def sortC (l : List GCube) : List GCube := l.mergeSort fun a b => !befC b a
theorem sortC_perm (l : List GCube) : (sortC l).Perm l := List.mergeSort_perm _ _
theorem sortC_weak (l : List GCube) : (sortC l).Pairwise fun a b => befC b a = false := by
  have := List.pairwise_mergeSort (le := fun a b : GCube => !befC b a) (fun a b c p q => by
    rw [Bool.not_eq_true', Bool.eq_false_iff, ne_eq, befC_iff] at *; omega) (fun a b => by
    rw [Bool.or_eq_true, Bool.not_eq_true', Bool.not_eq_true', Bool.eq_false_iff, Bool.eq_false_iff, ne_eq, ne_eq, befC_iff, befC_iff]; omega) l
  exact this.imp fun g => by rwa [Bool.not_eq_true'] at g
theorem sortC_strict {l : List GCube} (hn : l.Nodup) {b : GCube} {s : Int} (h : ∀ c ∈ l, cellIn b s c) : (sortC l).Pairwise fun a b => befC a b = true := by
  have h1 := sortC_weak l
  have h2 : (sortC l).Pairwise (· ≠ ·) := (sortC_perm l).nodup_iff.2 hn
  refine (h1.and h2).imp_of_mem ?_
  rintro p q hp hq ⟨g1, g2⟩
  rcases cell_ne (h p ((sortC_perm l).mem_iff.1 hp)) (h q ((sortC_perm l).mem_iff.1 hq)) g2 with k | k
  · exact k
  · rw [k] at g1; exact absurd g1 (by decide)
/-- A list in order that holds just these cubes is the sorted one. -/
theorem sortC_one {l o : List GCube} (hn : l.Nodup) {b : GCube} {s : Int} (h : ∀ c ∈ l, cellIn b s c) (hp : o.Perm l) (ho : o.Pairwise fun a b => befC a b = true) : o = sortC l :=
  befC_one (hp.trans (sortC_perm l).symm) ho (sortC_strict hn h)
noncomputable def okLo (xs : List GArrival) (b : GCube) (s : Int) : Bool := askLo xs b s && decide ((fullV xs b s).length ≤ 64)
noncomputable def resLo (xs : List GArrival) (b : GCube) (s : Int) : List GCube := if okLo xs b s then sortC (fullV xs b s) else []
theorem okLo_yes {xs : List GArrival} {b : GCube} {s : Int} (h : okLo xs b s = true) : askLo xs b s = true ∧ (fullV xs b s).length ≤ 64 := by
  unfold okLo at h
  rwa [Bool.and_eq_true, decide_eq_true_eq] at h
theorem okLo_ask {xs : List GArrival} {b : GCube} {s : Int} (h : askLo xs b s = false) : okLo xs b s = false := by unfold okLo; rw [h]; rfl
theorem okLo_many {xs : List GArrival} {b : GCube} {s : Int} (h : 64 < (fullV xs b s).length) : okLo xs b s = false := by unfold okLo; rw [decide_eq_false (by omega)]; exact Bool.and_false _
theorem okLo_few {xs : List GArrival} {b : GCube} {s : Int} (g : askLo xs b s = true) (h : (fullV xs b s).length ≤ 64) : okLo xs b s = true := by unfold okLo; rw [g, decide_eq_true h]; rfl
theorem resLo_no {xs : List GArrival} {b : GCube} {s : Int} (h : okLo xs b s = false) : resLo xs b s = [] := by unfold resLo; rw [h]; rfl
theorem resLo_yes {xs : List GArrival} {b : GCube} {s : Int} (h : okLo xs b s = true) : resLo xs b s = sortC (fullV xs b s) := by unfold resLo; rw [h]; rfl
theorem resLo_mem {xs : List GArrival} {b : GCube} {s : Int} (h : okLo xs b s = true) (c : GCube) : c ∈ resLo xs b s ↔ cellIn b s c ∧ canV xs c = true := by
  rw [resLo_yes h, (sortC_perm _).mem_iff, fullV_mem (okLo_yes h).1]
theorem resLo_most (xs : List GArrival) (b : GCube) (s : Int) : (resLo xs b s).length ≤ 64 := by
  cases h : okLo xs b s with
  | false => rw [resLo_no h]; simp
  | true =>
    rw [resLo_yes h, (sortC_perm _).length_eq]
    exact (okLo_yes h).2
theorem resLo_len (xs : List GArrival) (b : GCube) (s : Int) : szsCube (resLo xs b s) ≤ 1048576 := by
  have := resLo_most xs b s
  rw [szsCube_split]
  omega
/-- What a program's list must be. -/
theorem resLo_one {xs : List GArrival} {b : GCube} {s : Int} (h : askLo xs b s = true) {r o : List GCube} (hr : cutC r (fullV xs b s) 64) (hl : r.length ≤ 64) (hp : o.Perm r) (ho : o.Pairwise fun a b => befC a b = true) : okLo xs b s = true ∧ o = resLo xs b s := by
  have e : r = fullV xs b s := by
    rcases hr.2 with e | e
    · exact e
    · omega
  subst e
  have k := okLo_few h hl
  refine ⟨k, ?_⟩
  rw [resLo_yes k]
  exact sortC_one (fullV_nodup h) (fun c hc => ((fullV_mem h c).1 hc).1) hp ho
theorem okLo_cut {xs : List GArrival} {b : GCube} {s : Int} {r : List GCube} (hr : cutC r (fullV xs b s) 64) (hl : 64 < r.length) : okLo xs b s = false := okLo_many ((cutC_len hr).1 hl)
noncomputable def resPn (xs : List GArrival) (b : GCube) (s : Int) : Bool := okLo xs b s && decide ((resLo xs b s).length = 0)
-- is it consistent
noncomputable def okCo (xs : List GArrival) (o : GOrigin) : Bool := lstB xs && goodOr o
noncomputable def resCo (xs : List GArrival) (o : GOrigin) : Bool := okCo xs o && consV xs o
theorem okCo_yes {xs : List GArrival} {o : GOrigin} (h : okCo xs o = true) : lstB xs = true ∧ okOr o := by
  unfold okCo at h
  rw [Bool.and_eq_true] at h
  exact ⟨h.1, goodOr_yes h.2⟩
theorem resCo_yes {xs : List GArrival} {o : GOrigin} (h : resCo xs o = true) : okCo xs o = true ∧ ∀ a ∈ xs, fitV a o = true := by
  unfold resCo consV at h
  rw [Bool.and_eq_true, List.all_eq_true] at h
  exact h
theorem resCo_vot {xs : List GArrival} {o : GOrigin} (h : okCo xs o = true) : okVo xs o = true ∧ resCo xs o = decide (numVo xs o = (xs.length : Int)) := by
  obtain ⟨h1, h2⟩ := okCo_yes h
  have hv : okVo xs o = true := by unfold okVo; rw [goodAr_mk (lstB_yes h1).1, goodOr_mk h2]; rfl
  refine ⟨hv, ?_⟩
  unfold resCo
  rw [h, consV_vot, numVo_yes hv, Bool.true_and, Bool.eq_iff_iff, decide_eq_true_eq, decide_eq_true_eq]
  omega
-- where it is
noncomputable def askHo (l : List GCube) (o : GOrigin) : Bool := l.all goodCb && (goodOr o && decide (l.length ≤ 64))
noncomputable def okHo (l : List GCube) (o : GOrigin) : Bool := askHo l o && l.any (holdsC · o)
noncomputable def numHo (l : List GCube) (o : GOrigin) : Int := if okHo l o then ((l.findIdx (holdsC · o) : Nat) : Int) else 0
theorem okHo_mk {l : List GCube} {o : GOrigin} (h : ∀ c ∈ l, okCb c) (ho : okOr o) (hl : l.length ≤ 64) {c : GCube} (hc : c ∈ l) (g : holdsC c o = true) : okHo l o = true := by
  unfold okHo askHo
  rw [List.all_eq_true.2 fun c hc => goodCb_mk (h c hc), goodOr_mk ho, decide_eq_true hl, List.any_eq_true.2 ⟨c, hc, g⟩]
  rfl
theorem okHo_bad {l : List GCube} {o : GOrigin} {c : GCube} (hc : c ∈ l) (g : ¬ okCb c) : okHo l o = false := by
  have e : l.all goodCb = false := by
    rw [List.all_eq_false]
    exact ⟨c, hc, by rw [goodCb_no g]; exact Bool.false_ne_true⟩
  unfold okHo askHo
  rw [e]
  rfl
theorem numHo_no {l : List GCube} {o : GOrigin} (h : okHo l o = false) : numHo l o = 0 := by unfold numHo; rw [h]; rfl
/-- The first one that holds it. -/
theorem numHo_at {l : List GCube} {o : GOrigin} (h : askHo l o = true) {i : Nat} {c : GCube} (hi : l[i]? = some c) (g : holdsC c o = true) (hn : ∀ j d, j < i → l[j]? = some d → holdsC d o = false) : okHo l o = true ∧ numHo l o = (i : Int) := by
  have hc : c ∈ l := List.mem_of_getElem? hi
  have k : okHo l o = true := by unfold okHo; rw [h, List.any_eq_true.2 ⟨c, hc, g⟩]; rfl
  refine ⟨k, ?_⟩
  unfold numHo
  rw [if_pos k]
  obtain ⟨hl, e⟩ := List.getElem?_eq_some_iff.1 hi
  have : l.findIdx (holdsC · o) = i := (List.findIdx_eq hl).2 ⟨by rw [e]; exact g, fun j hj => by
    have hj' : j < l.length := by omega
    exact hn j _ hj (List.getElem?_eq_getElem hj')⟩
  rw [this]
theorem okHo_none {l : List GCube} {o : GOrigin} (hn : ∀ c ∈ l, holdsC c o = false) : okHo l o = false := by
  have e : l.any (holdsC · o) = false := by
    rw [List.any_eq_false]
    intro c hc
    rw [hn c hc]
    exact Bool.false_ne_true
  unfold okHo
  rw [e]
  exact Bool.and_false _
-- how many places
noncomputable def okCi (xs : List GArrival) (b : GCube) : Bool := lstB xs && (goodCb b && decide (b.pSide ≤ 16))
noncomputable def numCi (xs : List GArrival) (b : GCube) : Int := if okCi xs b then numC xs b else 0
theorem okCi_yes {xs : List GArrival} {b : GCube} (h : okCi xs b = true) : lstB xs = true ∧ okCb b ∧ b.pSide ≤ 16 := by
  unfold okCi at h
  rw [Bool.and_eq_true, Bool.and_eq_true, decide_eq_true_eq] at h
  exact ⟨h.1, goodCb_yes h.2.1, h.2.2⟩
theorem numCi_no {xs : List GArrival} {b : GCube} (h : okCi xs b = false) : numCi xs b = 0 := by unfold numCi; rw [h]; rfl
theorem numCi_yes {xs : List GArrival} {b : GCube} (h : okCi xs b = true) : numCi xs b = numC xs b := by unfold numCi; rw [h]; rfl

/-! What the laws ask. -/
theorem inCb_okRc {b : GCube} (h : okCb b) : okRc b 100 400 = true := by unfold okRc; rw [goodCb_mk h]; rfl
/-- The parts have all of it. -/
theorem cubes_facts {b : GCube} (h : okSp b = true) : okRc b 100 400 = true ∧ (1 ≤ (resSp b).length ∧ (resSp b).length ≤ 4) ∧
    (∀ p ∈ resSp b, okRc p 100 400 = true ∧ loRc b 100 400 ≤ loRc p 100 400 ∧ hiRc p 100 400 ≤ hiRc b 100 400 ∧ p.pSide * 2 = b.pSide ∧ goodCb p = true) ∧
    okHo (resSp b) ⟨b.pWest, b.pSouth, b.pTo⟩ = true := by
  obtain ⟨h1, h2⟩ := okSp_yes h
  have hb := inCb_okRc h1
  have hl := split_len h1 h2
  have hm : ∀ p ∈ splitV b, okCb p ∧ inCb b p ∧ p.pSide * 2 = b.pSide := by
    intro p hp
    obtain ⟨k, hk, rfl, ho⟩ := splitV_mem.1 hp
    refine ⟨(part_ok h1 h2 hk).2 ho, part_in h1 h2 hk, ?_⟩
    have := (half_side h1.1 h2).2
    show b.pSide / 2 * 2 = b.pSide
    omega
  rw [resSp_yes h]
  refine ⟨hb, hl, fun p hp => ?_, ?_⟩
  · obtain ⟨g1, g2, g3⟩ := hm p hp
    have gp := inCb_okRc g1
    have r := reach_in (okSide_bd g1.1).1 g2 100 400
    rw [loRc_yes hb, hiRc_yes hb, loRc_yes gp, hiRc_yes gp]
    exact ⟨gp, r.1, r.2, g3, goodCb_mk g1⟩
  · obtain ⟨c, hc, g⟩ := split_first h1 h2
    refine okHo_mk (fun p hp => (hm p hp).1) ?_ (by omega) hc g
    have p := h1.2.1
    have t := h1.2.2.2
    exact ⟨p, by show 0 ≤ b.pTo ∧ b.pTo ≤ 1000000; omega⟩
/-- Each consistent origin is in one of the cubes. -/
theorem loc_facts {xs : List GArrival} {b : GCube} {s : Int} (h : okLo xs b s = true) :
    (resLo xs b s).length ≤ 64 ∧ (∀ c ∈ resLo xs b s, okPo xs c = true ∧ resPo xs c = true ∧ c.pSide = s) ∧
    ∀ o, resCo xs o = true → holdsC b o = true → okHo (resLo xs b s) o = true := by
  obtain ⟨h1, h2, h3, h4⟩ := askLo_yes (okLo_yes h).1
  refine ⟨resLo_most _ _ _, fun c hc => ?_, fun o ho hb => ?_⟩
  · obtain ⟨g1, g2⟩ := (resLo_mem h c).1 hc
    exact ⟨okPo_mk h1 g1.1, resPo_mk h1 g1.1 g2, g1.2.1⟩
  · obtain ⟨k1, k2⟩ := resCo_yes ho
    have ko := (okCo_yes k1).2
    obtain ⟨c, hc, g⟩ := loc_found h2 h3 (expC_eq (okLo_yes h).1) ko hb k2
    refine okHo_mk (fun c hc => ((resLo_mem h c).1 hc).1.1) ko (resLo_most _ _ _) (c := c) ?_ g
    rw [resLo_yes h, (sortC_perm _).mem_iff]
    exact hc
/-- A cube with a consistent place is possible. -/
theorem ci_facts {xs : List GArrival} {b : GCube} (h : okCi xs b = true) : (0 ≤ numCi xs b ∧ numCi xs b ≤ b.pSide * b.pSide ∧ b.pSide ≤ 16) ∧ (0 < numCi xs b → okPo xs b = true ∧ resPo xs b = true) := by
  obtain ⟨h1, h2, h3⟩ := okCi_yes h
  have := numC_bd xs h2
  rw [numCi_yes h]
  refine ⟨⟨this.1, this.2, h3⟩, fun hn => ?_⟩
  have c := numC_can (lstB_yes h1).1 h2 hn
  exact ⟨okPo_mk h1 h2, resPo_mk h1 h2 c⟩
end Go.Proofs.Ytoogofceoinniaa
