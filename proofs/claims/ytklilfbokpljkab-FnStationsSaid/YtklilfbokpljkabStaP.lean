/- The nearest stations: the program's sort. -/
import Derived.Test.YtklilfbokpljkabStaO
import Derived.Test.YtklilfbokpljkabSrt
namespace Go.Proofs.Ytklilfbokpljkab
open Go.ChangeShapes Go.WideShapes Go.ChangeAt Go.RowKit Go.ChangeMaps Go.Sort Go.Shelf
set_option linter.unusedSimpArgs false
set_option linter.unusedVariables false

/-- The stations of a list. -/
abbrev SubS (xs : List GStation) := {s : GStation // s ∈ xs}
def encSub {xs : List GStation} (s : SubS xs) : List Value := encStation s.1
def cfN (x y : Int) {xs : List GStation} (a b : SubS xs) : Int := cmpN x y a.1 b.1
theorem cmpN_lt {x y : Int} {a b : GStation} : cmpN x y a b < 0 ↔ ltN x y a b := by
  unfold cmpN orI cmpI ltN
  by_cases h1 : sqd a x y < sqd b x y <;> by_cases h2 : sqd b x y < sqd a x y <;> by_cases h3 : a.pId < b.pId <;> by_cases h4 : b.pId < a.pId <;> simp [h1, h2, h3, h4] <;> omega
theorem ltOf_t {x y : Int} {xs : List GStation} {a b : SubS xs} : ltOf (cfN x y (xs := xs)) a b = true ↔ ltN x y a.1 b.1 := by
  unfold ltOf cfN; rw [decide_eq_true_eq]; exact cmpN_lt
theorem ltOf_f {x y : Int} {xs : List GStation} {a b : SubS xs} : ltOf (cfN x y (xs := xs)) a b = false ↔ ¬ ltN x y a.1 b.1 := by
  rw [← ltOf_t, Bool.not_eq_true]
theorem swoN (x y : Int) (xs : List GStation) : SWO (ltOf (cfN x y (xs := xs))) where
  irrefl a := by rw [ltOf_f]; unfold ltN; omega
  trans a b c h k := by rw [ltOf_t] at *; unfold ltN at *; omega
  ntrans a b c h k := by rw [ltOf_f] at *; unfold ltN at *; omega
theorem id_inj {xs : List GStation} (h : goodL xs = true) {a b : GStation} (ha : a ∈ xs) (hb : b ∈ xs) (e : a.pId = b.pId) : a = b := by
  obtain ⟨i, hi⟩ := List.mem_iff_getElem?.1 ha
  obtain ⟨j, hj⟩ := List.mem_iff_getElem?.1 hb
  have hi' := List.getElem?_eq_some_iff.1 hi
  have hj' := List.getElem?_eq_some_iff.1 hj
  have hp := List.pairwise_iff_getElem.1 (ids_nodup h)
  rcases Nat.lt_trichotomy i j with q | q | q
  · have := hp i j hi'.1 hj'.1 q
    rw [hi'.2, hj'.2] at this; omega
  · subst q; rw [hi] at hj; cases hj; rfl
  · have := hp j i hj'.1 hi'.1 q
    rw [hi'.2, hj'.2] at this; omega
theorem totN {x y : Int} {xs : List GStation} (h : goodL xs = true) (a b : SubS xs) (h1 : ltOf (cfN x y (xs := xs)) a b = false) (h2 : ltOf (cfN x y (xs := xs)) b a = false) : a = b := by
  rw [ltOf_f] at h1 h2
  exact Subtype.ext (id_inj h a.2 b.2 (by unfold ltN at *; omega))
/-- What the sort leaves. -/
noncomputable def sortN (x y : Int) (xs : List GStation) : List (SubS xs) := xs.attach.mergeSort fun a b => !(ltOf (cfN x y (xs := xs))) b a
theorem sortN_len (x y : Int) (xs : List GStation) : (sortN x y xs).length = xs.length := by
  unfold sortN; rw [(List.mergeSort_perm _ _).length_eq, List.length_attach]
theorem sortN_val {xs : List GStation} (h : goodL xs = true) (x y : Int) : (sortN x y xs).map Subtype.val = nearL x y xs := by
  have hp : (sortN x y xs).Perm xs.attach := List.mergeSort_perm _ _
  have hm : ((sortN x y xs).map Subtype.val).Perm xs := by
    have := hp.map Subtype.val
    rwa [List.attach_map_subtype_val] at this
  refine nearL_uniq h hm ?_
  have h1 : (sortN x y xs).Pairwise (fun a b => (!(ltOf (cfN x y (xs := xs))) b a) = true) := by
    refine List.pairwise_mergeSort (fun a b c p q => ?_) (fun a b => ?_) _
    · rw [Bool.not_eq_true', ltOf_f] at *; unfold ltN at *; omega
    · rw [Bool.or_eq_true, Bool.not_eq_true', Bool.not_eq_true', ltOf_f, ltOf_f]; unfold ltN; omega
  have h2 : ((sortN x y xs).map Subtype.val).Pairwise (fun a b => a.pId ≠ b.pId) := hm.symm.pairwise (R := fun a b => a.pId ≠ b.pId) ((ids_nodup h).imp (fun h => by omega)) (fun h => Ne.symm h)
  have h3 : ((sortN x y xs).map Subtype.val).Pairwise (fun a b => ¬ ltN x y b a) := by
    rw [List.pairwise_map]
    exact h1.imp (fun h => by rwa [Bool.not_eq_true', ltOf_f] at h)
  refine (List.Pairwise.and h2 h3).imp ?_
  rintro a b ⟨p, q⟩
  unfold ltN at *
  omega
theorem att_size (xs : List GStation) : xs.attach.toArray.size = xs.length := by simp
theorem att_get (xs : List GStation) [Inhabited (SubS xs)] {i : Nat} {s : GStation} (h : xs[i]? = some s) : (xs.attach.toArray[i]!).1 = s := by
  obtain ⟨hi, h2⟩ := List.getElem?_eq_some_iff.1 h
  have hs : i < xs.attach.toArray.size := by rw [att_size]; exact hi
  rw [getElem!_pos xs.attach.toArray i hs]
  simpa using h2
theorem sort_get {x y : Int} {xs : List GStation} (hg : goodL xs = true) [Inhabited (SubS xs)] {i : Nat} {s : GStation} (h : (nearL x y xs)[i]? = some s) : ((sortN x y xs).toArray[i]!).1 = s := by
  rw [← sortN_val hg, List.getElem?_map] at h
  obtain ⟨t, ht, rfl⟩ := Option.map_eq_some_iff.1 h
  obtain ⟨hi, h2⟩ := List.getElem?_eq_some_iff.1 ht
  have hs : i < (sortN x y xs).toArray.size := by simpa using hi
  rw [getElem!_pos (sortN x y xs).toArray i hs]
  simp [h2]
theorem encSub_len {xs : List GStation} (s : SubS xs) : (encSub s).length = 8 := encStation_len s.1
theorem encSub_one {xs : List GStation} (s : SubS xs) : ∀ v ∈ encSub s, v.oneCell' = true := by
  intro u hu
  exact oneStation [s.1] u (by simpa [encSub] using hu)
theorem holdsN {xs : List GStation} [Inhabited (SubS xs)] {w : World} {L B g off n cap : Nat} (h : OwnK encStation 8 w L B (.slice (some ⟨g, off, none⟩) n cap) xs) : HoldsK encSub 8 w g off xs.attach.toArray := by
  intro j hj
  rw [size_flatK] at hj
  rw [get_flatK _ _ _ _ hj]
  rw [att_size] at hj
  obtain ⟨s, hs⟩ := get_of_lt (l := xs) (k := j / 8) (by omega)
  obtain ⟨-, -, -, tc, tf⟩ := h.at hs
  have hl : j % 8 < (encStation s).length := by rw [encStation_len]; omega
  have h1 := tc (j % 8) _ (List.getElem?_eq_getElem hl)
  have e1 : off + j / 8 * 8 + j % 8 = off + j := by omega
  rw [e1] at h1
  refine ⟨?_, tf _⟩
  show _ = some ((encStation (xs.attach.toArray[j / 8]!).1)[j % 8]!)
  rw [att_get xs hs, h1, getElem!_pos (encStation s) (j % 8) hl]
theorem grew_grow (w : World) (os : Array Obj) : Grew w (grow w os) := ⟨0, os, rfl⟩
theorem sortW_cell {α : Type} [Inhabited α] (enc : α → List Value) (k : Nat) (w : World) (blk off m : Nat) (dk : Array α) (os : Array Obj) {b : Nat} {u : Value} (hb : b ≠ blk) (h : w.cell? ⟨b, 0, none⟩ = some u) : (sortWorldK enc k w blk off m dk os).cell? ⟨b, 0, none⟩ = some u := by
  unfold sortWorldK
  exact (grew_grow _ os).cell ((cell?_putRowK_other enc k (Sort.ahead w m) blk off dk ⟨b, 0, none⟩ hb).trans h)
/-- The closure is a compare for the sort, whatever the sort has done. -/
theorem laysN {xs : List GStation} [Inhabited (SubS xs)] (hg : goodL xs = true) {x y : Int} (hx : 0 ≤ x ∧ x ≤ 999) (hy : 0 ≤ y ∧ y ≤ 999) {w : World} {gx gy blk off : Nat} (hbx : gx ≠ blk) (hby : gy ≠ blk) (cx : w.cell? ⟨gx, 0, none⟩ = some (.int .i64 x)) (cy : w.cell? ⟨gy, 0, none⟩ = some (.int .i64 y)) (n : Nat) :
    CmpLays Try.prog 100 #[.pointer (some ⟨gx, 0, none⟩), .pointer (some ⟨gy, 0, none⟩)] encSub 8 (cfN x y (xs := xs)) blk off n w := by
  intro m os dk _ a b
  obtain ⟨ja, ha⟩ := List.mem_iff_getElem?.1 a.2
  obtain ⟨jb, hb⟩ := List.mem_iff_getElem?.1 b.2
  exact cloNear a.1 b.1 x y gx gy _ (goodL_at hg ha) (goodL_at hg hb) hx hy (sortW_cell encSub 8 w blk off m dk os hbx cx) (sortW_cell encSub 8 w blk off m dk os hby cy)
theorem below_sortW {α : Type} [Inhabited α] (enc : α → List Value) (k : Nat) {w : World} {L g off m : Nat} {dk : Array α} {os : Array Obj} (hL : L ≤ g) (hLw : L ≤ w.heap.size) : Below L w (sortWorldK enc k w g off m dk os) := by
  have hg : w.grownBy (sortWorldK enc k w g off m dk os) (some g) := by
    unfold sortWorldK putRowK
    refine ⟨rfl, rfl, rfl, by simp, fun k hk hne => ?_⟩
    rw [heap_grow_old _ _ (by simpa using hk)]
    have : g ≠ k := fun e => hne (by rw [e])
    simp [putRow, mapBlock, Sort.ahead, Array.getElem?_modify, this]
  exact Below.grown (Below.refl L w) hg hLw (fun q hq => by cases hq; exact hL)
theorem entersN : ∀ args w, (callFunc 100 args).run Try.prog w = .ok (.enter 100 args) w := enters_of Try.func100 (by kernel_rfl) rfl
/-- The sort of the stations. -/
theorem sortNear {xs : List GStation} (hne : xs ≠ []) (hlen : xs.length ≤ 10) (hg : goodL xs = true) {x y : Int} (hx : 0 ≤ x ∧ x ≤ 999) (hy : 0 ≤ y ∧ y ≤ 999) {w : World} {L g off cap gx gy : Nat} (ho : OwnK encStation 8 w L w.heap.size (.slice (some ⟨g, off, none⟩) xs.length cap) xs) (hbx : gx < L) (hby : gy < L) (cx : w.cell? ⟨gx, 0, none⟩ = some (.int .i64 x)) (cy : w.cell? ⟨gy, 0, none⟩ = some (.int .i64 y)) :
    Calls Try.prog 99 #[.slice (some ⟨g, off, none⟩) xs.length cap, .func (.func 100) #[] #[.pointer (some ⟨gx, 0, none⟩), .pointer (some ⟨gy, 0, none⟩)]] w fun e w' => e = .returned (.tuple #[]) ∧ Below L w w' ∧ (L ≤ g ∧ g < w.heap.size) ∧ ∀ i s, (nearL x y xs)[i]? = some s → ∀ j c, (encStation s)[j]? = some c → w'.cell? ⟨g, off + i * 8 + j, none⟩ = some c := by
  obtain ⟨s0, hs0⟩ := List.exists_mem_of_ne_nil xs hne
  letI : Inhabited (SubS xs) := ⟨⟨s0, hs0⟩⟩
  obtain ⟨i0, hi0⟩ := List.mem_iff_getElem?.1 hs0
  obtain ⟨hL, -, hblk, -, -⟩ := ho.at hi0
  have hH := holdsN ho
  have hS := AnyQ.slices_SortFunc_total Try.sortK_99 8 Try.isAgg60 Try.sizeOf60 encSub encSub_len encSub_one (cfN x y (xs := xs)) (swoN x y xs) 100 #[.pointer (some ⟨gx, 0, none⟩), .pointer (some ⟨gy, 0, none⟩)] g off cap xs.attach.toArray w entersN (laysN hg hx hy (by omega) (by omega) cx cy _) hH hblk (by rw [att_size]; omega) (totN hg)
  rw [att_size] at hS
  refine hS.mono ?_
  rintro e w' ⟨rfl, m, os, rfl⟩
  have hs : ((sortN x y xs).toArray).size = xs.attach.toArray.size := by rw [att_size, List.size_toArray, sortN_len]
  have hK := holdsK_sortWorldK_c encSub 8 w g off xs.attach.toArray (sortN x y xs).toArray m os hH hblk hs
  refine ⟨rfl, ?_, ⟨hL, hblk⟩, fun i s hi j c hj => ?_⟩
  · exact below_sortW encSub 8 hL (Nat.le_trans hL (Nat.le_of_lt hblk))
  · have hi' := List.getElem?_eq_some_iff.1 hi
    have hil : i < ((sortN x y xs).toArray).size := by rw [List.size_toArray, sortN_len, ← (nearL_perm x y xs).length_eq]; exact hi'.1
    have hj' := List.getElem?_eq_some_iff.1 hj
    have hjl : j < 8 := by have := hj'.1; rwa [encStation_len] at this
    have h2 := (hK.cell hil hjl).1
    refine h2.trans ?_
    show some ((encStation ((sortN x y xs).toArray[i]!).1)[j]!) = _
    rw [sort_get hg hi, getElem!_pos (encStation s) j hj'.1, hj'.2]
end Go.Proofs.Ytklilfbokpljkab
