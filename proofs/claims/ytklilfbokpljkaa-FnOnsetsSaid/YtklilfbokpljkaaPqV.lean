/- Picks: the order of the current ones, by the program: how two compare, the sort. -/
import Derived.Test.YtklilfbokpljkaaPqT
import Derived.Test.YtklilfbokpljkaaGrew
import Derived.Test.YtklilfbokpljkaaQTail
import Derived.Test.YtklilfbokpljkaaSrt
namespace Go.Proofs.Ytklilfbokpljkaa
open Go.ChangeShapes Go.WideShapes Go.ChangeAt Go.RowKit Go.ChangeMaps Go.Sort Go.Shelf
set_option linter.unusedSimpArgs false
set_option linter.unusedVariables false

def cmpC (a b : GPick) : Int := orI (cmpI a.pTick b.pTick) (cmpI a.pId b.pId)
set_option maxRecDepth 100000 in
set_option maxHeartbeats 4000000 in
theorem cloCur (a b : GPick) (w : World) : Calls Try.prog 155 #[.agg #[.int .i64 a.pId, .int .i64 a.pStation, .int .i64 a.pWave, .int .i64 a.pTick, .int .i64 a.pError, .int .i64 a.pBy, .int .i64 a.pAfter], .agg #[.int .i64 b.pId, .int .i64 b.pStation, .int .i64 b.pWave, .int .i64 b.pTick, .int .i64 b.pError, .int .i64 b.pBy, .int .i64 b.pAfter]] w fun e w' => e = .returned (.int .i64 (cmpC a b)) ∧ Grew w w' := by
  have G0 : Grew w ((w.alloc (.cells #[.int .i64 a.pId, .int .i64 a.pStation, .int .i64 a.pWave, .int .i64 a.pTick, .int .i64 a.pError, .int .i64 a.pBy, .int .i64 a.pAfter] 76)).alloc (.cells #[.int .i64 b.pId, .int .i64 b.pStation, .int .i64 b.pWave, .int .i64 b.pTick, .int .i64 b.pError, .int .i64 b.pBy, .int .i64 b.pAfter] 76)) := ((Grew.refl w).alloc _).alloc _
  have bA : Bx ((w.alloc (.cells #[.int .i64 a.pId, .int .i64 a.pStation, .int .i64 a.pWave, .int .i64 a.pTick, .int .i64 a.pError, .int .i64 a.pBy, .int .i64 a.pAfter] 76)).alloc (.cells #[.int .i64 b.pId, .int .i64 b.pStation, .int .i64 b.pWave, .int .i64 b.pTick, .int .i64 b.pError, .int .i64 b.pBy, .int .i64 b.pAfter] 76)) w.heap.size (encPick a) := (Bx.new w (encPick a) 76).alloc _
  have bB : Bx ((w.alloc (.cells #[.int .i64 a.pId, .int .i64 a.pStation, .int .i64 a.pWave, .int .i64 a.pTick, .int .i64 a.pError, .int .i64 a.pBy, .int .i64 a.pAfter] 76)).alloc (.cells #[.int .i64 b.pId, .int .i64 b.pStation, .int .i64 b.pWave, .int .i64 b.pTick, .int .i64 b.pError, .int .i64 b.pBy, .int .i64 b.pAfter] 76)) (w.heap.size + 1) (encPick b) := Bx.new1 w (.cells #[.int .i64 a.pId, .int .i64 a.pStation, .int .i64 a.pWave, .int .i64 a.pTick, .int .i64 a.pError, .int .i64 a.pBy, .int .i64 a.pAfter] 76) (encPick b) 76
  have a0 : ((w.alloc (.cells #[.int .i64 a.pId, .int .i64 a.pStation, .int .i64 a.pWave, .int .i64 a.pTick, .int .i64 a.pError, .int .i64 a.pBy, .int .i64 a.pAfter] 76)).alloc (.cells #[.int .i64 b.pId, .int .i64 b.pStation, .int .i64 b.pWave, .int .i64 b.pTick, .int .i64 b.pError, .int .i64 b.pBy, .int .i64 b.pAfter] 76)).cell? ⟨w.heap.size, 0, none⟩ = some (.int .i64 a.pId) := bA.2 0 _ rfl
  have a3 : ((w.alloc (.cells #[.int .i64 a.pId, .int .i64 a.pStation, .int .i64 a.pWave, .int .i64 a.pTick, .int .i64 a.pError, .int .i64 a.pBy, .int .i64 a.pAfter] 76)).alloc (.cells #[.int .i64 b.pId, .int .i64 b.pStation, .int .i64 b.pWave, .int .i64 b.pTick, .int .i64 b.pError, .int .i64 b.pBy, .int .i64 b.pAfter] 76)).cell? ⟨w.heap.size, 3, none⟩ = some (.int .i64 a.pTick) := bA.2 3 _ rfl
  have b0 : ((w.alloc (.cells #[.int .i64 a.pId, .int .i64 a.pStation, .int .i64 a.pWave, .int .i64 a.pTick, .int .i64 a.pError, .int .i64 a.pBy, .int .i64 a.pAfter] 76)).alloc (.cells #[.int .i64 b.pId, .int .i64 b.pStation, .int .i64 b.pWave, .int .i64 b.pTick, .int .i64 b.pError, .int .i64 b.pBy, .int .i64 b.pAfter] 76)).cell? ⟨w.heap.size + 1, 0, none⟩ = some (.int .i64 b.pId) := bB.2 0 _ rfl
  have b3 : ((w.alloc (.cells #[.int .i64 a.pId, .int .i64 a.pStation, .int .i64 a.pWave, .int .i64 a.pTick, .int .i64 a.pError, .int .i64 a.pBy, .int .i64 a.pAfter] 76)).alloc (.cells #[.int .i64 b.pId, .int .i64 b.pStation, .int .i64 b.pWave, .int .i64 b.pTick, .int .i64 b.pError, .int .i64 b.pBy, .int .i64 b.pAfter] 76)).cell? ⟨w.heap.size + 1, 3, none⟩ = some (.int .i64 b.pTick) := bB.2 3 _ rfl
  generalize hres : cmpC a b = res
  unfold cmpC at hres
  have HR := Lib.hid hres
  clear hres bA bB
  go_enter Try.func155, Try.ntmps155
  go_wp2
  generalize (w.alloc (.cells #[.int .i64 a.pId, .int .i64 a.pStation, .int .i64 a.pWave, .int .i64 a.pTick, .int .i64 a.pError, .int .i64 a.pBy, .int .i64 a.pAfter] 76)).alloc (.cells #[.int .i64 b.pId, .int .i64 b.pStation, .int .i64 b.pWave, .int .i64 b.pTick, .int .i64 b.pError, .int .i64 b.pBy, .int .i64 b.pAfter] 76) = W0 at *
  have cD := fun n os => Calls.gr_of (w := W0) (n := n) (os := os) ((cmpCompare a.pTick b.pTick _).mono fun e w' ⟨h, hw⟩ => ⟨h, hw ▸ Grew.refl _⟩)
  have cI := fun n os => Calls.gr_of (w := W0) (n := n) (os := os) ((cmpCompare a.pId b.pId _).mono fun e w' ⟨h, hw⟩ => ⟨h, hw ▸ Grew.refl _⟩)
  have r_a0 := cell_gr a0
  have r_a3 := cell_gr a3
  have r_b0 := cell_gr b0
  have r_b3 := cell_gr b3
  generalize cmpI a.pTick b.pTick = r1 at *
  generalize cmpI a.pId b.pId = r2 at *
  refine region_gr_tail 10 (by kernel_rfl) (by kernel_rfl) ?_
  simp only [List.take_succ_cons, List.take_zero, List.drop_succ_cons, List.drop_zero]
  repeat (go_big_quiet_step (first | with_reducible exact cD _ _ | with_reducible exact cI _ _))
  refine wpQuiet_nil ?_
  intro _ hw'
  obtain ⟨⟨nq, osq⟩, hw''⟩ := hw'
  subst hw''
  have GQ : Grew W0 (grow (W0.drewN nq) osq) := ⟨nq, osq, rfl⟩
  have G1 := G0.trans GQ
  generalize grow (W0.drewN nq) osq = w2 at *
  clear cD cI GQ r_a0 r_a3 r_b0 r_b3
  have bS := Bx.new w2 [.int .i64 r1, .int .i64 r2] 3
  have s0 := bS.2 0 _ rfl
  have s1 := bS.2 1 _ rfl
  go_wp2_with (go_at_call 156; refine (cmpOr r1 r2 _ _ s0 s1).mono ?_; rintro e wo ⟨rfl, rfl⟩)
  go_ret
  exact ⟨ret_int HR.out, G1.alloc _⟩

def ascI (xs : List GPick) : Prop := xs.Pairwise fun a b => a.pId < b.pId
def ordL (xs : List GPick) : List GPick := xs.mergeSort leC
theorem ordL_perm (xs : List GPick) : (ordL xs).Perm xs := List.mergeSort_perm _ _
theorem ordL_asc {xs : List GPick} (h : ascI xs) : (ordL xs).Pairwise ltC := by
  have h1 : (ordL xs).Pairwise (fun a b => leC a b = true) := List.pairwise_mergeSort leC_trans leC_total _
  have h2 : (ordL xs).Pairwise (fun a b => a.pId ≠ b.pId) :=
    (ordL_perm xs).symm.pairwise (R := fun a b => a.pId ≠ b.pId) (List.Pairwise.imp (fun h => by omega) h) (fun h => Ne.symm h)
  refine (List.Pairwise.and h1 h2).imp ?_
  rintro a b ⟨h1, h2⟩
  unfold leC at h1
  unfold ltC
  simp only [Bool.or_eq_true, Bool.and_eq_true, decide_eq_true_eq] at h1
  omega
theorem ordL_uniq {xs ol : List GPick} (h : ascI xs) (hp : ol.Perm xs) (ha : ol.Pairwise ltC) : ol = ordL xs :=
  asc_uniq ltC_asymm _ _ (hp.trans (ordL_perm xs).symm) ha (ordL_asc h)
/-- The picks of a list. -/
abbrev SubS (xs : List GPick) := {s : GPick // s ∈ xs}
def encSub {xs : List GPick} (s : SubS xs) : List Value := encPick s.1
def cfN {xs : List GPick} (a b : SubS xs) : Int := cmpC a.1 b.1
theorem cmpC_lt {a b : GPick} : cmpC a b < 0 ↔ ltC a b := by
  unfold cmpC orI cmpI ltC
  by_cases h1 : a.pTick < b.pTick <;> by_cases h2 : b.pTick < a.pTick <;> by_cases h3 : a.pId < b.pId <;> by_cases h4 : b.pId < a.pId <;> simp [h1, h2, h3, h4] <;> omega
theorem ltOf_t {xs : List GPick} {a b : SubS xs} : ltOf (cfN (xs := xs)) a b = true ↔ ltC a.1 b.1 := by
  unfold ltOf cfN; rw [decide_eq_true_eq]; exact cmpC_lt
theorem ltOf_f {xs : List GPick} {a b : SubS xs} : ltOf (cfN (xs := xs)) a b = false ↔ ¬ ltC a.1 b.1 := by
  rw [← ltOf_t, Bool.not_eq_true]
theorem swoN (xs : List GPick) : SWO (ltOf (cfN (xs := xs))) where
  irrefl a := by rw [ltOf_f]; unfold ltC; omega
  trans a b c h k := by rw [ltOf_t] at *; unfold ltC at *; omega
  ntrans a b c h k := by rw [ltOf_f] at *; unfold ltC at *; omega
theorem idc_inj {xs : List GPick} (h : ascI xs) {a b : GPick} (ha : a ∈ xs) (hb : b ∈ xs) (e : a.pId = b.pId) : a = b := by
  obtain ⟨i, hi⟩ := List.mem_iff_getElem?.1 ha
  obtain ⟨j, hj⟩ := List.mem_iff_getElem?.1 hb
  have hi' := List.getElem?_eq_some_iff.1 hi
  have hj' := List.getElem?_eq_some_iff.1 hj
  have hp := List.pairwise_iff_getElem.1 (h)
  rcases Nat.lt_trichotomy i j with q | q | q
  · have := hp i j hi'.1 hj'.1 q
    rw [hi'.2, hj'.2] at this; omega
  · subst q; rw [hi] at hj; cases hj; rfl
  · have := hp j i hj'.1 hi'.1 q
    rw [hi'.2, hj'.2] at this; omega
theorem totN {xs : List GPick} (h : ascI xs) (a b : SubS xs) (h1 : ltOf (cfN (xs := xs)) a b = false) (h2 : ltOf (cfN (xs := xs)) b a = false) : a = b := by
  rw [ltOf_f] at h1 h2
  exact Subtype.ext (idc_inj h a.2 b.2 (by unfold ltC at *; omega))
/-- What the sort leaves. -/
noncomputable def sortN (xs : List GPick) : List (SubS xs) := xs.attach.mergeSort fun a b => !(ltOf (cfN (xs := xs))) b a
theorem sortN_len (xs : List GPick) : (sortN xs).length = xs.length := by
  unfold sortN; rw [(List.mergeSort_perm _ _).length_eq, List.length_attach]
theorem sortN_val {xs : List GPick} (h : ascI xs) : (sortN xs).map Subtype.val = ordL xs := by
  have hp : (sortN xs).Perm xs.attach := List.mergeSort_perm _ _
  have hm : ((sortN xs).map Subtype.val).Perm xs := by
    have := hp.map Subtype.val
    rwa [List.attach_map_subtype_val] at this
  refine ordL_uniq h hm ?_
  have h1 : (sortN xs).Pairwise (fun a b => (!(ltOf (cfN (xs := xs))) b a) = true) := by
    refine List.pairwise_mergeSort (fun a b c p q => ?_) (fun a b => ?_) _
    · rw [Bool.not_eq_true', ltOf_f] at *; unfold ltC at *; omega
    · rw [Bool.or_eq_true, Bool.not_eq_true', Bool.not_eq_true', ltOf_f, ltOf_f]; unfold ltC; omega
  have h2 : ((sortN xs).map Subtype.val).Pairwise (fun a b => a.pId ≠ b.pId) := hm.symm.pairwise (R := fun a b => a.pId ≠ b.pId) ((h).imp (fun h => by omega)) (fun h => Ne.symm h)
  have h3 : ((sortN xs).map Subtype.val).Pairwise (fun a b => ¬ ltC b a) := by
    rw [List.pairwise_map]
    exact h1.imp (fun h => by rwa [Bool.not_eq_true', ltOf_f] at h)
  refine (List.Pairwise.and h2 h3).imp ?_
  rintro a b ⟨p, q⟩
  unfold ltC at *
  omega
theorem att_size (xs : List GPick) : xs.attach.toArray.size = xs.length := by simp
theorem att_get (xs : List GPick) [Inhabited (SubS xs)] {i : Nat} {s : GPick} (h : xs[i]? = some s) : (xs.attach.toArray[i]!).1 = s := by
  obtain ⟨hi, h2⟩ := List.getElem?_eq_some_iff.1 h
  have hs : i < xs.attach.toArray.size := by rw [att_size]; exact hi
  rw [getElem!_pos xs.attach.toArray i hs]
  simpa using h2
theorem sort_get {xs : List GPick} (hg : ascI xs) [Inhabited (SubS xs)] {i : Nat} {s : GPick} (h : (ordL xs)[i]? = some s) : ((sortN xs).toArray[i]!).1 = s := by
  rw [← sortN_val hg, List.getElem?_map] at h
  obtain ⟨t, ht, rfl⟩ := Option.map_eq_some_iff.1 h
  obtain ⟨hi, h2⟩ := List.getElem?_eq_some_iff.1 ht
  have hs : i < (sortN xs).toArray.size := by simpa using hi
  rw [getElem!_pos (sortN xs).toArray i hs]
  simp [h2]
theorem encSub_len {xs : List GPick} (s : SubS xs) : (encSub s).length = 7 := encPick_len s.1
theorem encSub_one {xs : List GPick} (s : SubS xs) : ∀ v ∈ encSub s, v.oneCell' = true := by
  intro u hu
  exact onePick [s.1] u (by simpa [encSub] using hu)
theorem holdsN {xs : List GPick} [Inhabited (SubS xs)] {w : World} {L B g off n cap : Nat} (h : OwnK encPick 7 w L B (.slice (some ⟨g, off, none⟩) n cap) xs) : HoldsK encSub 7 w g off xs.attach.toArray := by
  intro j hj
  rw [size_flatK] at hj
  rw [get_flatK _ _ _ _ hj]
  rw [att_size] at hj
  obtain ⟨s, hs⟩ := get_of_lt (l := xs) (k := j / 7) (by omega)
  obtain ⟨-, -, -, tc, tf⟩ := h.at hs
  have hl : j % 7 < (encPick s).length := by rw [encPick_len]; omega
  have h1 := tc (j % 7) _ (List.getElem?_eq_getElem hl)
  have e1 : off + j / 7 * 7 + j % 7 = off + j := by omega
  rw [e1] at h1
  refine ⟨?_, tf _⟩
  show _ = some ((encPick (xs.attach.toArray[j / 7]!).1)[j % 7]!)
  rw [att_get xs hs, h1, getElem!_pos (encPick s) (j % 7) hl]
theorem grew_grow (w : World) (os : Array Obj) : Grew w (grow w os) := ⟨0, os, rfl⟩
theorem sortW_cell {α : Type} [Inhabited α] (enc : α → List Value) (k : Nat) (w : World) (blk off m : Nat) (dk : Array α) (os : Array Obj) {b : Nat} {u : Value} (hb : b ≠ blk) (h : w.cell? ⟨b, 0, none⟩ = some u) : (sortWorldK enc k w blk off m dk os).cell? ⟨b, 0, none⟩ = some u := by
  unfold sortWorldK
  exact (grew_grow _ os).cell ((cell?_putRowK_other enc k (Sort.ahead w m) blk off dk ⟨b, 0, none⟩ hb).trans h)
/-- The closure is a compare for the sort, whatever the sort has done. -/
theorem laysN {xs : List GPick} [Inhabited (SubS xs)] (hg : ascI xs) {w : World} {blk off : Nat} (n : Nat) :
    CmpLays Try.prog 155 #[] encSub 7 (cfN (xs := xs)) blk off n w := by
  intro m os dk _ a b
  exact cloCur a.1 b.1 _
theorem below_sortW {α : Type} [Inhabited α] (enc : α → List Value) (k : Nat) {w : World} {L g off m : Nat} {dk : Array α} {os : Array Obj} (hL : L ≤ g) (hLw : L ≤ w.heap.size) : Below L w (sortWorldK enc k w g off m dk os) := by
  have hg : w.grownBy (sortWorldK enc k w g off m dk os) (some g) := by
    unfold sortWorldK putRowK
    refine ⟨rfl, rfl, rfl, by simp, fun k hk hne => ?_⟩
    rw [heap_grow_old _ _ (by simpa using hk)]
    have : g ≠ k := fun e => hne (by rw [e])
    simp [putRow, mapBlock, Sort.ahead, Array.getElem?_modify, this]
  exact Below.grown (Below.refl L w) hg hLw (fun q hq => by cases hq; exact hL)
theorem entersN : ∀ args w, (callFunc 155 args).run Try.prog w = .ok (.enter 155 args) w := enters_of Try.func155 (by kernel_rfl) rfl
/-- The sort of the picks. -/
theorem sortCur {xs : List GPick} (hne : xs ≠ []) (hlen : xs.length ≤ 12) (hg : ascI xs) {w : World} {L g off cap : Nat} (ho : OwnK encPick 7 w L w.heap.size (.slice (some ⟨g, off, none⟩) xs.length cap) xs) :
    Calls Try.prog 154 #[.slice (some ⟨g, off, none⟩) xs.length cap, .func (.func 155) #[] #[]] w fun e w' => e = .returned (.tuple #[]) ∧ Below L w w' ∧ (L ≤ g ∧ g < w.heap.size) ∧ ∀ i s, (ordL xs)[i]? = some s → ∀ j c, (encPick s)[j]? = some c → w'.cell? ⟨g, off + i * 7 + j, none⟩ = some c := by
  obtain ⟨s0, hs0⟩ := List.exists_mem_of_ne_nil xs hne
  letI : Inhabited (SubS xs) := ⟨⟨s0, hs0⟩⟩
  obtain ⟨i0, hi0⟩ := List.mem_iff_getElem?.1 hs0
  obtain ⟨hL, -, hblk, -, -⟩ := ho.at hi0
  have hH := holdsN ho
  have hS := AnyQ.slices_SortFunc_total Try.sortK_154 7 Try.isAgg76 Try.sizeOf76 encSub encSub_len encSub_one (cfN (xs := xs)) (swoN xs) 155 #[] g off cap xs.attach.toArray w entersN (laysN hg _) hH hblk (by rw [att_size]; omega) (totN hg)
  rw [att_size] at hS
  refine hS.mono ?_
  rintro e w' ⟨rfl, m, os, rfl⟩
  have hs : ((sortN xs).toArray).size = xs.attach.toArray.size := by rw [att_size, List.size_toArray, sortN_len]
  have hK := holdsK_sortWorldK_c encSub 7 w g off xs.attach.toArray (sortN xs).toArray m os hH hblk hs
  refine ⟨rfl, ?_, ⟨hL, hblk⟩, fun i s hi j c hj => ?_⟩
  · exact below_sortW encSub 7 hL (Nat.le_trans hL (Nat.le_of_lt hblk))
  · have hi' := List.getElem?_eq_some_iff.1 hi
    have hil : i < ((sortN xs).toArray).size := by rw [List.size_toArray, sortN_len, ← (ordL_perm xs).length_eq]; exact hi'.1
    have hj' := List.getElem?_eq_some_iff.1 hj
    have hjl : j < 7 := by have := hj'.1; rwa [encPick_len] at this
    have h2 := (hK.cell hil hjl).1
    refine h2.trans ?_
    show some ((encPick ((sortN xs).toArray[i]!).1)[j]!) = _
    rw [sort_get hg hi, getElem!_pos (encPick s) j hj'.1, hj'.2]
end Go.Proofs.Ytklilfbokpljkaa
