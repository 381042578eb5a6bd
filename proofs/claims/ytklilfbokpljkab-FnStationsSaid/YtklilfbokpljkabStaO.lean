/- The nearest stations: the order, and the specification. -/
import Derived.Test.YtklilfbokpljkabStaN
import Derived.Test.YtklilfbokpljkabIns
import Derived.IntWalk
namespace Go.Proofs.Ytklilfbokpljkab
open Go.ChangeShapes Go.WideShapes Go.ChangeAt Go.RowKit Go.ChangeMaps Go.Sort
set_option linter.unusedSimpArgs false
set_option linter.unusedVariables false

def ltN (x y : Int) (a b : GStation) : Prop := sqd a x y < sqd b x y ∨ (sqd a x y = sqd b x y ∧ a.pId < b.pId)
theorem ltN_asymm {x y : Int} {a b : GStation} (h : ltN x y a b) (k : ltN x y b a) : False := by
  unfold ltN at *; omega
/-- Two ascending lists of the same elements are one. -/
theorem asc_uniq {α : Type} {lt : α → α → Prop} (ha : ∀ a b, lt a b → lt b a → False) : ∀ (l k : List α), l.Perm k → l.Pairwise lt → k.Pairwise lt → l = k
  | [], k, h, _, _ => (List.Perm.nil_eq h).symm ▸ rfl
  | a :: l, [], h, _, _ => by have := h.length_eq; simp at this
  | a :: l, b :: k, h, h1, h2 => by
    have e : a = b := by
      have m1 : a ∈ b :: k := h.subset (by simp)
      have m2 : b ∈ a :: l := h.symm.subset (by simp)
      rcases List.mem_cons.1 m1 with e | m1
      · exact e
      · rcases List.mem_cons.1 m2 with e | m2
        · exact e.symm
        · exact absurd ((List.pairwise_cons.1 h1).1 b m2) (fun p => ha a b p ((List.pairwise_cons.1 h2).1 a m1))
    subst e
    rw [asc_uniq ha l k (List.Perm.cons_inv h) (List.pairwise_cons.1 h1).2 (List.pairwise_cons.1 h2).2]
/-- Where an element is put into an ascending list. -/
theorem asc_ins {α : Type} {lt : α → α → Prop} {l : List α} {s : α} {k : Nat} (h : l.Pairwise lt) (h1 : ∀ a ∈ l.take k, lt a s) (h2 : ∀ a ∈ l.drop k, lt s a) : (l.take k ++ s :: l.drop k).Pairwise lt := by
  have h0 := h
  rw [← List.take_append_drop k l, List.pairwise_append] at h0
  obtain ⟨p1, p2, p3⟩ := h0
  rw [List.pairwise_append]
  refine ⟨p1, List.pairwise_cons.2 ⟨h2, p2⟩, fun a ha b hb => ?_⟩
  rcases List.mem_cons.1 hb with rfl | hb
  · exact h1 a ha
  · exact p3 a ha b hb
theorem perm_ins {α : Type} (l : List α) (s : α) (k : Nat) : (l.take k ++ s :: l.drop k).Perm (l ++ [s]) := by
  have h1 : (l.take k ++ s :: l.drop k).Perm (s :: (l.take k ++ l.drop k)) := List.perm_middle
  rw [List.take_append_drop] at h1
  exact h1.trans (List.perm_append_singleton s l).symm
set_option maxHeartbeats 400000 in
theorem specSq (s : GStation) (x y : Int) (w : World) (h1 : 0 ≤ s.pX ∧ s.pX ≤ 999) (h2 : 0 ≤ s.pY ∧ s.pY ≤ 999) (h3 : 0 ≤ x ∧ x ≤ 999) (h4 : 0 ≤ y ∧ y ≤ 999) :
    Calls Try.prog 105 #[.agg #[.int .i64 s.pId, .string s.pName, .int .i64 s.pX, .int .i64 s.pY, .int .i64 s.pGain, .int .i64 s.pLow, .int .i64 s.pHigh, .int .i64 s.pUntil], .int .i64 x, .int .i64 y] w fun e w' => e = .returned (.int .i64 (sqd s x y)) ∧ Below w.heap.size w w' := by
  obtain ⟨h1, h1'⟩ := h1
  obtain ⟨h2, h2'⟩ := h2
  obtain ⟨h3, h3'⟩ := h3
  obtain ⟨h4, h4'⟩ := h4
  have b1 := sq_bound (d := s.pX - x) (by omega)
  have b2 := sq_bound (d := s.pY - y) (by omega)
  have s1 : IntKind.i64.wrap (s.pX - x) = s.pX - x := IntWalk.i64_in _ (by omega)
  have s2 : IntKind.i64.wrap (s.pY - y) = s.pY - y := IntWalk.i64_in _ (by omega)
  have s3 : IntKind.i64.wrap ((s.pX - x) * (s.pX - x)) = (s.pX - x) * (s.pX - x) := IntWalk.i64_in _ (by omega)
  have s4 : IntKind.i64.wrap ((s.pY - y) * (s.pY - y)) = (s.pY - y) * (s.pY - y) := IntWalk.i64_in _ (by omega)
  have s5 : IntKind.i64.wrap ((s.pX - x) * (s.pX - x) + (s.pY - y) * (s.pY - y)) = (s.pX - x) * (s.pX - x) + (s.pY - y) * (s.pY - y) := IntWalk.i64_in _ (by omega)
  unfold sqd
  go_enter Try.func105, Try.ntmps105
  go_wp2
  first
    | (go_ret; exact ⟨ret_int (by first | rfl | omega), (Below.refl _ _).alloc (Nat.le_refl _) _⟩)
    | (go_quiet (fail); go_wp2; go_ret; exact ⟨ret_int (by first | rfl | omega | (simp; try omega)), drewN_b ((Below.refl _ _).alloc (Nat.le_refl _) _) _⟩)
def nearOk (xs : List GStation) (x y c : Int) : Prop := goodL xs = true ∧ plcB x y = true ∧ inB c 1 10 = true
noncomputable def okNear (xs : List GStation) (x y c : Int) : Bool := @decide (nearOk xs x y c) (Classical.propDecidable _)
/-- The stations, the nearest first. -/
def leN (x y : Int) (a b : GStation) : Bool := decide (sqd a x y < sqd b x y) || (decide (sqd a x y = sqd b x y) && decide (a.pId ≤ b.pId))
def nearL (x y : Int) (xs : List GStation) : List GStation := xs.mergeSort (leN x y)
noncomputable def resNear (xs : List GStation) (x y c : Int) : List Int := if okNear xs x y c then ((nearL x y xs).take c.toNat).map fun s => s.pId else []
theorem leN_trans (x y : Int) (a b c : GStation) (h : leN x y a b = true) (k : leN x y b c = true) : leN x y a c = true := by
  unfold leN at *; simp only [Bool.or_eq_true, Bool.and_eq_true, decide_eq_true_eq] at *; omega
theorem leN_total (x y : Int) (a b : GStation) : (leN x y a b || leN x y b a) = true := by
  unfold leN; simp only [Bool.or_eq_true, Bool.and_eq_true, decide_eq_true_eq]; omega
theorem ids_nodup {xs : List GStation} (h : goodL xs = true) : xs.Pairwise fun a b => a.pId < b.pId := by
  rw [List.pairwise_iff_getElem]
  intro i j hi hj hij
  exact (((goodL_yes h).2 j xs[j] (List.getElem?_eq_getElem hj) hj).2 i xs[i] (List.getElem?_eq_getElem hi) hij).1
theorem nearL_perm (x y : Int) (xs : List GStation) : (nearL x y xs).Perm xs := List.mergeSort_perm _ _
theorem nearL_asc {xs : List GStation} (h : goodL xs = true) (x y : Int) : (nearL x y xs).Pairwise (ltN x y) := by
  have h1 : (nearL x y xs).Pairwise (fun a b => leN x y a b = true) := List.pairwise_mergeSort (leN_trans x y) (leN_total x y) xs
  have h2 : (nearL x y xs).Pairwise (fun a b => a.pId ≠ b.pId) := by
    have hp := (nearL_perm x y xs).symm.pairwise (R := fun a b => a.pId ≠ b.pId) ((ids_nodup h).imp (fun h => by omega)) (fun h => Ne.symm h)
    exact hp
  refine (List.Pairwise.and h1 h2).imp ?_
  rintro a b ⟨h1, h2⟩
  unfold leN at h1
  unfold ltN
  simp only [Bool.or_eq_true, Bool.and_eq_true, decide_eq_true_eq] at h1
  omega
/-- Whatever ascends and has the same stations is it. -/
theorem nearL_uniq {xs ol : List GStation} (h : goodL xs = true) {x y : Int} (hp : ol.Perm xs) (ha : ol.Pairwise (ltN x y)) : ol = nearL x y xs :=
  asc_uniq (fun _ _ => ltN_asymm) _ _ (hp.trans (nearL_perm x y xs).symm) ha (nearL_asc h x y)


theorem okNear_no {xs : List GStation} {x y c : Int} (h : ¬ nearOk xs x y c) : okNear xs x y c = false ∧ resNear xs x y c = [] := by
  have e : okNear xs x y c = false := @decide_eq_false _ (Classical.propDecidable _) h
  refine ⟨e, ?_⟩
  unfold resNear; rw [e]; rfl
theorem okNear_yes {xs : List GStation} {x y c : Int} (h : nearOk xs x y c) : okNear xs x y c = true ∧ resNear xs x y c = ((nearL x y xs).take c.toNat).map fun s => s.pId := by
  have e : okNear xs x y c = true := @decide_eq_true _ (Classical.propDecidable _) h
  refine ⟨e, ?_⟩
  unfold resNear; rw [e]; rfl
/-- The list so far: the stations before number i, the nearest first. -/
def soFar (xs : List GStation) (x y : Int) (i : Nat) (ol : List GStation) : Prop := ol.Perm (xs.take i) ∧ ol.Pairwise (ltN x y)
theorem soFar_len {xs ol : List GStation} {x y : Int} {i : Nat} (h : soFar xs x y i ol) (hi : i ≤ xs.length) : ol.length = i := by
  have := h.1.length_eq; rw [List.length_take] at this; omega
theorem soFar_mem {xs ol : List GStation} {x y : Int} {i : Nat} (h : soFar xs x y i ol) {t : GStation} (ht : t ∈ ol) : t ∈ xs := List.mem_of_mem_take (h.1.subset ht)
theorem soFar_id {xs ol : List GStation} {x y : Int} {i : Nat} {s : GStation} (hg : goodL xs = true) (h : soFar xs x y i ol) (hs : xs[i]? = some s) {t : GStation} (ht : t ∈ ol) : t.pId < s.pId := by
  obtain ⟨j, hj⟩ := List.mem_iff_getElem?.1 (h.1.subset ht)
  rw [List.getElem?_take] at hj
  split at hj
  · exact (((goodL_yes hg).2 i s hs (List.getElem?_eq_some_iff.1 hs).1).2 j t hj (by assumption)).1
  · cases hj
theorem soFar_succ {xs ol : List GStation} {x y : Int} {i k : Nat} {s : GStation} (hg : goodL xs = true) (h : soFar xs x y i ol) (hs : xs[i]? = some s)
    (h1 : ∀ j t, ol[j]? = some t → k ≤ j → sqd s x y < sqd t x y) (h2 : ∀ t, ol[k - 1]? = some t → 0 < k → sqd t x y ≤ sqd s x y) (hk : k ≤ ol.length) : soFar xs x y (i + 1) (ol.take k ++ s :: ol.drop k) := by
  refine ⟨?_, asc_ins h.2 (fun a ha => ?_) (fun a ha => ?_)⟩
  · rw [take_snoc hs]
    exact (perm_ins ol s k).trans (h.1.append_right [s])
  · obtain ⟨j, hj⟩ := List.mem_iff_getElem?.1 ha
    rw [List.getElem?_take] at hj
    split at hj
    · rename_i hjk
      obtain ⟨t, ht⟩ := get_of_lt (l := ol) (k := k - 1) (by omega)
      have h3 := h2 t ht (by omega)
      have hid := soFar_id hg h hs (List.mem_of_mem_take ha)
      have h4 : sqd a x y ≤ sqd t x y := by
        by_cases e : j = k - 1
        · subst e; rw [hj] at ht; cases ht; omega
        · have hj' := (List.getElem?_eq_some_iff.1 hj)
          have ht' := (List.getElem?_eq_some_iff.1 ht)
          have := (List.pairwise_iff_getElem.1 h.2) j (k - 1) hj'.1 ht'.1 (by omega)
          rw [hj'.2, ht'.2] at this
          unfold ltN at this; omega
      unfold ltN; omega
    · cases hj
  · obtain ⟨j, hj⟩ := List.mem_iff_getElem?.1 ha
    rw [List.getElem?_drop] at hj
    exact Or.inl (h1 (k + j) a hj (by omega))
theorem cell_same {w w' : World} {g : Nat} (h : w'.heap[g]? = w.heap[g]?) (o : Nat) : w'.cell? ⟨g, o, none⟩ = w.cell? ⟨g, o, none⟩ := by
  unfold World.cell?; simp only [h]
theorem flat_take {α : Type} {en : α → List Value} {K : Nat} (hK : ∀ x, (en x).length = K) : ∀ (l : List α) (k : Nat), ((l.flatMap en).take (k * K)) = (l.take k).flatMap en
  | [], k => by simp
  | a :: l, 0 => by simp
  | a :: l, k + 1 => by
    rw [List.flatMap_cons, List.take_succ_cons, List.flatMap_cons, Nat.add_mul, Nat.one_mul, Nat.add_comm, List.take_append, hK, Nat.add_sub_cancel_left, List.take_of_length_le (by rw [hK]; omega), flat_take hK l k]
theorem flat_drop {α : Type} {en : α → List Value} {K : Nat} (hK : ∀ x, (en x).length = K) : ∀ (l : List α) (k : Nat), ((l.flatMap en).drop (k * K)) = (l.drop k).flatMap en
  | [], k => by simp
  | a :: l, 0 => by simp
  | a :: l, k + 1 => by
    rw [List.flatMap_cons, List.drop_succ_cons, Nat.add_mul, Nat.one_mul, Nat.add_comm, List.drop_append, hK, Nat.add_sub_cancel_left, List.drop_of_length_le (by rw [hK]; omega), List.nil_append, flat_drop hK l k]

set_option maxRecDepth 100000 in
set_option maxHeartbeats 2000000 in
theorem specNear (xs : List GStation) (v : Value) (x y c : Int) (w : World) (B : Nat) (h : StationL w B v xs) (hB : B ≤ w.heap.size) (hn : szsStation xs ≤ 1048576) (hw : ∀ s ∈ xs, wfStation s) (_ : I64 x) (_ : I64 y) (_ : I64 c) :
    Calls Try.prog 58 #[v, .int .i64 x, .int .i64 y, .int .i64 c] w fun e w' => ∃ v', e = .returned (.tuple #[v', .bool (okNear xs x y c)]) ∧ Own (Value.int .i64) w' w.heap.size w'.heap.size v' (resNear xs x y c) ∧ Below w.heap.size w w' := by
  have N1 := (Below.refl w.heap.size w).alloc (Nat.le_refl _) (.cells #[] 3)
  have hrow0 := row_empty w (base := w.heap.size) 3 1 (Nat.le_refl _)
  have h1 := h.below (N1.mono hB)
  generalize hok : okNear xs x y c = ok
  generalize hres : resNear xs x y c = res
  have HK := Lib.hid hok
  have HR := Lib.hid hres
  clear hok hres
  by_cases hg : goodL xs = true
  case neg =>
    have C := Lib.hid (specGoodV xs v _ B h1 (Nat.le_trans hB N1.size) hn hw false (bool_f hg))
    obtain ⟨e1, e2⟩ := okNear_no (x := x) (y := y) (c := c) (fun h => hg h.1)
    have E1 := HK.out.symm.trans e1
    have E2 := HR.out.symm.trans e2
    subst E1 E2
    clear hg e1 e2
    obtain ⟨ao, cap, rfl, -⟩ := h
    go_enter Try.func58, Try.ntmps58
    go_wp2_with fail
    refine C.out.mono ?_
    rintro e w1 ⟨rfl, hb⟩
    have C1 := N1.trans (hb.mono N1.size)
    have hr1 := row_below hrow0 hb
    go_wp2
    go_ret2
    exact ⟨_, rfl, Own.of_row (xs := ([] : List Int)) hr1, C1⟩
  have C := Lib.hid (specGoodV xs v _ B h1 (Nat.le_trans hB N1.size) hn hw true hg)
  by_cases hp : plcB x y = true
  case neg =>
    have HP := Lib.hid (bool_f hp)
    obtain ⟨e1, e2⟩ := okNear_no (xs := xs) (c := c) (fun h => hp h.2.1)
    have E1 := HK.out.symm.trans e1
    have E2 := HR.out.symm.trans e2
    subst E1 E2
    clear hg hp e1 e2
    obtain ⟨ao, cap, rfl, -⟩ := h
    go_enter Try.func58, Try.ntmps58
    go_wp2_with fail
    refine C.out.mono ?_
    rintro e w1 ⟨rfl, hb⟩
    have C1 := N1.trans (hb.mono N1.size)
    have hr1 := row_below hrow0 hb
    go_wp2_with fail
    refine (specPlace _ _ false _ HP.out).mono ?_
    rintro e w2 ⟨rfl, rfl⟩
    go_wp2
    go_ret2
    exact ⟨_, rfl, Own.of_row (xs := ([] : List Int)) hr1, C1⟩
  have HP := Lib.hid hp
  by_cases hcc : inB c 1 10 = true
  case neg =>
    have HI := Lib.hid (bool_f hcc)
    obtain ⟨e1, e2⟩ := okNear_no (xs := xs) (x := x) (y := y) (fun h => hcc h.2.2)
    have E1 := HK.out.symm.trans e1
    have E2 := HR.out.symm.trans e2
    subst E1 E2
    clear hg hp hcc e1 e2
    obtain ⟨ao, cap, rfl, -⟩ := h
    go_enter Try.func58, Try.ntmps58
    go_wp2_with fail
    refine C.out.mono ?_
    rintro e w1 ⟨rfl, hb⟩
    have C1 := N1.trans (hb.mono N1.size)
    have hr1 := row_below hrow0 hb
    go_wp2_with fail
    refine (specPlace _ _ true _ HP.out).mono ?_
    rintro e w2 ⟨rfl, rfl⟩
    go_wp2_with fail
    refine (specIn _ _ _ false _ HI.out).mono ?_
    rintro e w2 ⟨rfl, rfl⟩
    go_wp2
    go_ret2
    exact ⟨_, rfl, Own.of_row (xs := ([] : List Int)) hr1, C1⟩
  have HI := Lib.hid hcc
  have hlen := goodL_len hg
  obtain ⟨e1, e2⟩ := okNear_yes ⟨hg, hp, hcc⟩
  have E1 := HK.out.symm.trans e1
  subst E1
  have E2 := Lib.hid (HR.out.symm.trans e2)
  have HGL := Lib.hid hg
  have hpl : (0 ≤ x ∧ x ≤ 999) ∧ 0 ≤ y ∧ y ≤ 999 := by
    unfold plcB at hp
    rw [Bool.and_eq_true] at hp
    exact ⟨inB_iff.1 hp.1, inB_iff.1 hp.2⟩
  obtain ⟨hx, hy⟩ := hpl
  obtain ⟨hc1, hc10⟩ := inB_iff.1 hcc
  clear hg hp hcc e1 e2 h1
  obtain ⟨ao, cap, rfl, hcap, hmax, hnn, hc⟩ := h
  unfold maxLen at hmax
  have HC := Lib.hid hc
  clear hc hnn
  obtain ⟨ti, hi, hz0, hz1, hz2⟩ := info_parts info_Station
  obtain ⟨tj, hj, hy0, hy1, hy2⟩ := info_parts infoInt
  go_enter Try.func58, Try.ntmps58
  go_wp2_with fail
  refine C.out.mono ?_
  rintro e w1 ⟨rfl, hb⟩
  have C1 := N1.trans (hb.mono N1.size)
  have hr1 := row_below hrow0 hb
  have z1 : w.heap.size + 1 ≤ w1.heap.size := by have := hb.size; simpa using this
  clear hb hrow0 N1 C
  go_wp2_with fail
  refine (specPlace _ _ true _ HP.out).mono ?_
  rintro e w2 ⟨rfl, rfl⟩
  go_wp2_with fail
  refine (specIn _ _ _ true _ HI.out).mono ?_
  rintro e w2 ⟨rfl, rfl⟩
  have hrO := rowK_empty w1 (base := w1.heap.size) 60 8 (Nat.le_refl _)
  have BO : Below w1.heap.size w1 (w1.alloc (.cells #[] 60)) := (Below.refl _ _).alloc (Nat.le_refl _) _
  go_wp2
  go_loopw [11, 12] (fun o i wr => ∃ (k : Nat) (ol : List GStation) (g cap : Nat), k ≤ xs.length ∧ i = .int .i64 k ∧ o = .slice (some ⟨g, 0, none⟩) k cap ∧ Hid (soFar xs x y k ol) ∧ wr.ownsRow w1.heap.size 60 8 (.slice (some ⟨g, 0, none⟩) k cap) k (ol.flatMap encStation) ∧ k ≤ cap ∧ cap ≤ maxLen ∧ Below w1.heap.size w1 wr)
    (fun _ i _ => xs.length - (intOf i).toNat)
  case atStart => exact ⟨0, [], _, _, Nat.zero_le _, rfl, rfl, Lib.hid ⟨by simp, by simp⟩, hrO, Nat.le_refl _, Nat.zero_le _, BO⟩
  case round =>
    obtain ⟨k, ol, g, ocap, hk, rfl, rfl, HSF, hrow, hoc, hom, hbl⟩ := hrel
    have hsz := hbl.size
    unfold maxLen at hom
    by_cases hlt : k < xs.length
    case neg =>
      obtain rfl : k = xs.length := by omega
      have hol : ol = nearL x y xs := nearL_uniq HGL.out (by have := HSF.out.1; rwa [List.take_length] at this) HSF.out.2
      have HOL := Lib.hid (soFar_len HSF.out hk)
      obtain ⟨n, rfl⟩ : ∃ n : Nat, c = (n : Int) := ⟨c.toNat, by omega⟩
      have HE : Hid (res = (ol.take n).map fun s => s.pId) := Lib.hid (by rw [hol]; have := E2.out; rwa [Int.toNat_natCast] at this)
      have OW := Lib.hid (OwnK.of_row encStation_len (by omega) hrow)
      have hg := hrow.lt g rfl
      have hrO2 := row_below hr1 hbl
      have CW : Below w.heap.size w wr := C1.trans (hbl.mono (by omega))
      clear hol E2 HSF hlt hr1 hrow
      obtain ⟨hg1, hg2⟩ := hg
      obtain ⟨wo, rfl⟩ : ∃ wo : World, wo = wr := ⟨_, rfl⟩
      go_wp2
      go_loopw [10, 14] (fun o i wr => ∃ (q : Nat) (v : Value) (il : List Int), q ≤ xs.length ∧ q ≤ n ∧ i = .int .i64 q ∧ o = v ∧ Hid (il = (ol.take q).map fun s => s.pId) ∧ wr.ownsRow w.heap.size 3 1 v q (il.map (Value.int .i64)) ∧ (∃ ao cap, v = .slice ao q cap) ∧ (∀ b, v.ownBlock = some b → b ≠ g) ∧ wr.heap[g]? = wo.heap[g]? ∧ wo.heap.size ≤ wr.heap.size ∧ Below w.heap.size w wr)
        (fun _ i _ => xs.length - (intOf i).toNat)
      case atStart => exact ⟨0, _, [], Nat.zero_le _, Nat.zero_le _, rfl, rfl, Lib.hid (by simp), hrO2, ⟨_, _, rfl⟩, (fun b hb => by have h9 : w.heap.size = b := Option.some.inj hb; omega), rfl, Nat.le_refl _, CW⟩
      case round =>
        obtain ⟨q, _, il, hq, hqn, rfl, rfl, HIL, hrow2, ⟨oa, oc, rfl⟩, hne, hgk, hsz2, hbl2⟩ := hrel
        by_cases hlt2 : q < xs.length
        case neg =>
          obtain rfl : q = xs.length := by omega
          have E3 : il = res := by rw [HIL.out, HE.out, List.take_of_length_le (by rw [HOL.out]; omega), List.take_of_length_le (by rw [HOL.out]; omega)]
          subst E3
          go_wp2
          go_ret2
          exact ⟨_, rfl, Own.of_row hrow2, hbl2⟩
        have hq1 : (q : Int) < (xs.length : Int) := by omega
        by_cases hcq : q < n
        case neg =>
          obtain rfl : q = n := by omega
          have E3 : il = res := by rw [HIL.out, HE.out]
          subst E3
          go_wp2
          go_ret2
          exact ⟨_, rfl, Own.of_row hrow2, hbl2⟩
        have hq2 : (q : Int) < (n : Int) := by omega
        have hq0 : (0 : Int) ≤ (q : Int) := by omega
        obtain ⟨t, ht⟩ := get_of_lt (l := ol) (k := q) (by rw [HOL.out]; omega)
        obtain ⟨-, -, -, tc, -⟩ := OwnK.at OW.out ht
        have t0 : wr.cell? ⟨g, q * 8, none⟩ = some (.int .i64 t.pId) := (cell_same hgk _).trans (by have := tc 0 _ rfl; simpa using this)
        have t1 : wr.cell? ⟨g, q * 8 + 1, none⟩ = some (.string t.pName) := (cell_same hgk _).trans (by have := tc 1 _ rfl; simpa using this)
        have t2 : wr.cell? ⟨g, q * 8 + 2, none⟩ = some (.int .i64 t.pX) := (cell_same hgk _).trans (by have := tc 2 _ rfl; simpa using this)
        have t3 : wr.cell? ⟨g, q * 8 + 3, none⟩ = some (.int .i64 t.pY) := (cell_same hgk _).trans (by have := tc 3 _ rfl; simpa using this)
        have t4 : wr.cell? ⟨g, q * 8 + 4, none⟩ = some (.int .i64 t.pGain) := (cell_same hgk _).trans (by have := tc 4 _ rfl; simpa using this)
        have t5 : wr.cell? ⟨g, q * 8 + 5, none⟩ = some (.int .i64 t.pLow) := (cell_same hgk _).trans (by have := tc 5 _ rfl; simpa using this)
        have t6 : wr.cell? ⟨g, q * 8 + 6, none⟩ = some (.int .i64 t.pHigh) := (cell_same hgk _).trans (by have := tc 6 _ rfl; simpa using this)
        have t7 : wr.cell? ⟨g, q * 8 + 7, none⟩ = some (.int .i64 t.pUntil) := (cell_same hgk _).trans (by have := tc 7 _ rfl; simpa using this)
        have HIL2 : Hid (il ++ [t.pId] = (ol.take (q + 1)).map fun s => s.pId) := Lib.hid (by rw [take_snoc ht, List.map_append, ← HIL.out]; rfl)
        clear ht tc HIL
        go_wp2_with (at_builtin; refine wpList_append_srcK _ rfl _ _ 22 rfl (w.heap.size) 3 tj (.int .i64 0) 1 8 Try.underlying22 hj hy0 hy1 hy2 rfl (by decide) _ q (il.map (Value.int .i64)) rfl (hrow2.alloc _) _ 1 [.int .i64 t.pId] rfl ⟨⟨wr.heap.size, 0, none⟩, 1, rfl, by simp, cell_one_new _ _ _, by simp [Value.oneCell']⟩ (by unfold maxLen; omega) (by omega) (by first | omega | (simp; done) | (simp; omega)) ?_; intro v' w3 hown' hgrow hat)
        have b3 := below_app2 hrow2 hgrow (by have := hbl2.size; omega) (Nat.le_refl _)
        have hrow3 : w3.ownsRow w.heap.size 3 1 v' (q + 1) ((il ++ [t.pId]).map (Value.int .i64)) := by simpa using hown'
        have hs3 := hgrow.size
        have hs4 : wr.heap.size + 1 ≤ w3.heap.size := by simpa using hs3
        have hgk3 : w3.heap[g]? = wo.heap[g]? := by
          have q1 := hgrow.block g (by simp; omega) (fun e => hne g e.symm rfl)
          have q2 := ((Below.refl wr.heap.size wr).alloc (Nat.le_refl _) (.cells #[.int .i64 t.pId] 3)).block g (by omega)
          exact (q1.trans q2).trans hgk
        have hne3 : ∀ b, v'.ownBlock = some b → b ≠ g := by
          intro b hb
          rcases hat with e | e
          · exact hne b (e ▸ hb)
          · rw [e] at hb
            have h9 := Option.some.inj hb
            simp at h9
            omega
        obtain ⟨a3, c3, rfl⟩ := row_form hrow3
        clear hown' hgrow hat
        go_wp2
        go_roundw
        case rel => exact ⟨q + 1, _, _, by omega, by omega, by go_num, rfl, HIL2, hrow3, ⟨_, _, rfl⟩, hne3, hgk3, by omega, hbl2.trans b3⟩
        case measure => simp [intOf]; omega
    have hol := soFar_len HSF.out hk
    have HOL := Lib.hid hol
    obtain ⟨s, hs⟩ := get_of_lt hlt
    obtain ⟨b, off, rfl, hb, hcell⟩ := HC.out k s hs
    have gs := goodS_bounds (goodL_at HGL.out hs)
    have CW : Below w.heap.size w wr := C1.trans (hbl.mono (by omega))
    have c0 : wr.cell? ⟨b, off + k * 8, none⟩ = some (.int .i64 s.pId) := cellOf CW (by omega) (hcell 0 _ rfl)
    have c1 : wr.cell? ⟨b, off + k * 8 + 1, none⟩ = some (.string s.pName) := cellOf CW (by omega) (hcell 1 _ rfl)
    have c2 : wr.cell? ⟨b, off + k * 8 + 2, none⟩ = some (.int .i64 s.pX) := cellOf CW (by omega) (hcell 2 _ rfl)
    have c3 : wr.cell? ⟨b, off + k * 8 + 3, none⟩ = some (.int .i64 s.pY) := cellOf CW (by omega) (hcell 3 _ rfl)
    have c4 : wr.cell? ⟨b, off + k * 8 + 4, none⟩ = some (.int .i64 s.pGain) := cellOf CW (by omega) (hcell 4 _ rfl)
    have c5 : wr.cell? ⟨b, off + k * 8 + 5, none⟩ = some (.int .i64 s.pLow) := cellOf CW (by omega) (hcell 5 _ rfl)
    have c6 : wr.cell? ⟨b, off + k * 8 + 6, none⟩ = some (.int .i64 s.pHigh) := cellOf CW (by omega) (hcell 6 _ rfl)
    have c7 : wr.cell? ⟨b, off + k * 8 + 7, none⟩ = some (.int .i64 s.pUntil) := cellOf CW (by omega) (hcell 7 _ rfl)
    have HS := Lib.hid hs
    clear hs hcell hol
    obtain ⟨wo, rfl⟩ : ∃ wo : World, wo = wr := ⟨_, rfl⟩
    have SS := Lib.hid (fun W => specSq s x y W (by omega) (by omega) hx hy)
    generalize hds : sqd s x y = ds at *
    have HDS := Lib.hid hds
    clear hds
    go_wp2
    go_loopw [13] (fun j wr => ∃ m : Nat, m ≤ k ∧ j = .int .i64 m ∧ Hid (∀ j t, ol[j]? = some t → m ≤ j → sqd s x y < sqd t x y) ∧ Below wo.heap.size wo wr)
      (fun j _ => (intOf j).toNat)
    case atStart => exact ⟨k, Nat.le_refl _, rfl, Lib.hid (fun j t hj hm => by have := (List.getElem?_eq_some_iff.1 hj).1; rw [HOL.out] at this; omega), Below.refl _ _⟩
    case round =>
      obtain ⟨m, hm, rfl, HM, hbi⟩ := hrel
      have hszi := hbi.size
      have hrow2 := row_below hrow hbi
      have hk0 : (0 : Int) ≤ (k : Int) := by omega
      have hk1 : (k : Int) < (xs.length : Int) := by omega
      have d0 := cellOf hbi (cell_of_lt c0) c0
      have d1 := cellOf hbi (cell_of_lt c1) c1
      have d2 := cellOf hbi (cell_of_lt c2) c2
      have d3 := cellOf hbi (cell_of_lt c3) c3
      have d4 := cellOf hbi (cell_of_lt c4) c4
      have d5 := cellOf hbi (cell_of_lt c5) c5
      have d6 := cellOf hbi (cell_of_lt c6) c6
      have d7 := cellOf hbi (cell_of_lt c7) c7
      clear c0 c1 c2 c3 c4 c5 c6 c7
      by_cases hm0 : m = 0
      case pos =>
        have g1 : ¬ (0 : Int) < (m : Int) := by omega
        have g2 : decide ((0 : Int) < (m : Int)) = false := by simpa using hm0
        have g3 : decide (0 < m) = false := by simpa using hm0
        have g4 : ¬ 0 < m := by omega
        have HL : Hid (∀ t, ol[m - 1]? = some t → 0 < m → sqd t x y ≤ sqd s x y) := Lib.hid (fun t _ h => by omega)
        clear hm0
        go_wp2
        refine wp_region_quiet_below (by kernel_rfl) (by kernel_rfl) ?_
        repeat (go_big_quiet_step (fail))
        refine wpQuiet_nil ?_
        intro _ hw'
        obtain ⟨⟨dq, osq⟩, hw''⟩ := hw'
        subst hw''
        have hb4 := below_regrown (wr) dq osq
        generalize grow (redrawn (wr) dq) osq = w4 at *
        clear g1 g2 g3 g4
        have hbx := hbi.trans (hb4.mono hszi)
        by_cases hcapm : m = ocap
        case pos =>
          have hkm : k = m := by omega
          subst hkm
          subst hcapm
          have hd9 : ol.drop k = [] := List.drop_of_length_le (by rw [HOL.out]; omega)
          have HSF2 := Lib.hid (soFar_succ HGL.out HSF.out HS.out HM.out HL.out (by rw [HOL.out]; exact hm))
          have hx4 := hbx.size
          have hm0 : (0 : Int) ≤ (k : Int) := by omega
          have hm1 : (k : Int) ≤ (k : Int) := by omega
          have hcm5 : (k : Int) ≤ (k : Int) := by omega
          have hcm6 : k ≤ k := by omega
          have hrow4 := row_below hrow2 hb4
          have e0 := cellOf hb4 (cell_of_lt d0) d0
          have e1 := cellOf hb4 (cell_of_lt d1) d1
          have e2 := cellOf hb4 (cell_of_lt d2) d2
          have e3 := cellOf hb4 (cell_of_lt d3) d3
          have e4 := cellOf hb4 (cell_of_lt d4) d4
          have e5 := cellOf hb4 (cell_of_lt d5) d5
          have e6 := cellOf hb4 (cell_of_lt d6) d6
          have e7 := cellOf hb4 (cell_of_lt d7) d7
          have KA : Below w4.heap.size w4 (w4.alloc (.cells #[] 60)).drew := ((Below.refl _ _).alloc (Nat.le_refl _) _).drew
          have KA1 : Below w4.heap.size w4 ((w4.alloc (.cells #[] 60)).alloc (.cells #[.int .i64 s.pId, .string s.pName, .int .i64 s.pX, .int .i64 s.pY, .int .i64 s.pGain, .int .i64 s.pLow, .int .i64 s.pHigh, .int .i64 s.pUntil] 60)).drew := (((Below.refl _ _).alloc (Nat.le_refl _) _).alloc (by first | omega | (simp; done) | (simp; omega)) _).drew
          have KB : Below w4.heap.size w4 (w4.alloc (.cells #[.int .i64 s.pId, .string s.pName, .int .i64 s.pX, .int .i64 s.pY, .int .i64 s.pGain, .int .i64 s.pLow, .int .i64 s.pHigh, .int .i64 s.pUntil] 60)).drew := ((Below.refl _ _).alloc (Nat.le_refl _) _).drew
          have KB0 : Below w4.heap.size w4 ((w4.alloc (.cells #[.int .i64 s.pId, .string s.pName, .int .i64 s.pX, .int .i64 s.pY, .int .i64 s.pGain, .int .i64 s.pLow, .int .i64 s.pHigh, .int .i64 s.pUntil] 60)).alloc (.cells #[] 60)).drew := (((Below.refl _ _).alloc (Nat.le_refl _) _).alloc (by first | omega | (simp; done) | (simp; omega)) _).drew
          have rA : (w4.alloc (.cells #[] 60)).drew.ownsRow w4.heap.size 60 8 (.slice (some ⟨w4.heap.size, 0, none⟩) 0 0) 0 [] := rowK_empty w4 _ _ (Nat.le_refl _)
          have rA1 : ((w4.alloc (.cells #[] 60)).alloc (.cells #[.int .i64 s.pId, .string s.pName, .int .i64 s.pX, .int .i64 s.pY, .int .i64 s.pGain, .int .i64 s.pLow, .int .i64 s.pHigh, .int .i64 s.pUntil] 60)).drew.ownsRow w4.heap.size 60 8 (.slice (some ⟨w4.heap.size, 0, none⟩) 0 0) 0 [] := (rowK_empty w4 _ _ (Nat.le_refl _)).alloc _
          have rB0 : ((w4.alloc (.cells #[.int .i64 s.pId, .string s.pName, .int .i64 s.pX, .int .i64 s.pY, .int .i64 s.pGain, .int .i64 s.pLow, .int .i64 s.pHigh, .int .i64 s.pUntil] 60)).alloc (.cells #[] 60)).drew.ownsRow w4.heap.size 60 8 (.slice (some ⟨w4.heap.size + 1, 0, none⟩) 0 0) 0 [] := by
            have h9 : ((w4.alloc (.cells #[.int .i64 s.pId, .string s.pName, .int .i64 s.pX, .int .i64 s.pY, .int .i64 s.pGain, .int .i64 s.pLow, .int .i64 s.pHigh, .int .i64 s.pUntil] 60)).alloc (.cells #[] 60)).ownsRow w4.heap.size 60 8 (.slice (some ⟨w4.heap.size + 1, 0, none⟩) 0 0) 0 [] := by
              have := rowK_empty (w4.alloc (.cells #[.int .i64 s.pId, .string s.pName, .int .i64 s.pX, .int .i64 s.pY, .int .i64 s.pGain, .int .i64 s.pLow, .int .i64 s.pHigh, .int .i64 s.pUntil] 60)) (base := w4.heap.size) 60 8 (by first | omega | (simp; done) | (simp; omega))
              simpa using this
            exact h9
          have bA1 : Bx ((w4.alloc (.cells #[] 60)).alloc (.cells #[.int .i64 s.pId, .string s.pName, .int .i64 s.pX, .int .i64 s.pY, .int .i64 s.pGain, .int .i64 s.pLow, .int .i64 s.pHigh, .int .i64 s.pUntil] 60)).drew (w4.heap.size + 1) (encStation s) := Bx.new1 w4 (.cells #[] 60) (encStation s) 60
          have bB0 : Bx ((w4.alloc (.cells #[.int .i64 s.pId, .string s.pName, .int .i64 s.pX, .int .i64 s.pY, .int .i64 s.pGain, .int .i64 s.pLow, .int .i64 s.pHigh, .int .i64 s.pUntil] 60)).alloc (.cells #[] 60)).drew w4.heap.size (encStation s) := (Bx.new w4 (encStation s) 60).alloc _
          have q1 : SrcK w4 8 (.slice (some ⟨g, 0, none⟩) k k) k ((ol.take k).flatMap encStation) := by
            have := row_part hrow4 (oneStation ol) 0 k k (Nat.zero_le _) hm
            simpa [flat_take encStation_len] using this
          have q2 : SrcK w4 8 (.slice (some ⟨g, 0, none⟩) 0 0) 0 [] := srcK_nil _ _ _ _
          have one1 : ∀ u ∈ encStation s, u.oneCell' = true := by intro u hu; exact oneStation [s] u (by simpa using hu)
          have hS : ∀ w', Below w4.heap.size w4 w' → Below w4.heap.size w4 w' ∧ w'.cell? ⟨b, off + k * 8, none⟩ = some (.int .i64 s.pId) ∧ w'.cell? ⟨b, off + k * 8 + 1, none⟩ = some (.string s.pName) ∧ w'.cell? ⟨b, off + k * 8 + 2, none⟩ = some (.int .i64 s.pX) ∧ w'.cell? ⟨b, off + k * 8 + 3, none⟩ = some (.int .i64 s.pY) ∧ w'.cell? ⟨b, off + k * 8 + 4, none⟩ = some (.int .i64 s.pGain) ∧ w'.cell? ⟨b, off + k * 8 + 5, none⟩ = some (.int .i64 s.pLow) ∧ w'.cell? ⟨b, off + k * 8 + 6, none⟩ = some (.int .i64 s.pHigh) ∧ w'.cell? ⟨b, off + k * 8 + 7, none⟩ = some (.int .i64 s.pUntil) := fun w' q => ⟨q, cellOf q (cell_of_lt e0) e0, cellOf q (cell_of_lt e1) e1, cellOf q (cell_of_lt e2) e2, cellOf q (cell_of_lt e3) e3, cellOf q (cell_of_lt e4) e4, cellOf q (cell_of_lt e5) e5, cellOf q (cell_of_lt e6) e6, cellOf q (cell_of_lt e7) e7⟩
          have HS0 := Lib.hid hS
          have Q1 := Lib.hid q1
          have Q2 := Lib.hid q2
          have ONE := Lib.hid one1
          clear hS q1 q2 one1
          go_wp2
          go_region_held3 (fun w' => Below w4.heap.size w4 w' ∧ w'.cell? ⟨b, off + k * 8, none⟩ = some (.int .i64 s.pId) ∧ w'.cell? ⟨b, off + k * 8 + 1, none⟩ = some (.string s.pName) ∧ w'.cell? ⟨b, off + k * 8 + 2, none⟩ = some (.int .i64 s.pX) ∧ w'.cell? ⟨b, off + k * 8 + 3, none⟩ = some (.int .i64 s.pY) ∧ w'.cell? ⟨b, off + k * 8 + 4, none⟩ = some (.int .i64 s.pGain) ∧ w'.cell? ⟨b, off + k * 8 + 5, none⟩ = some (.int .i64 s.pLow) ∧ w'.cell? ⟨b, off + k * 8 + 6, none⟩ = some (.int .i64 s.pHigh) ∧ w'.cell? ⟨b, off + k * 8 + 7, none⟩ = some (.int .i64 s.pUntil))
            (first
              | exact HS0.out _ (Below.refl _ _).drew
              | exact HS0.out _ (by with_reducible assumption))
            (first
              | (refine step_append_srcK (((w4.alloc (.cells #[] 60)).alloc (.cells #[.int .i64 s.pId, .string s.pName, .int .i64 s.pX, .int .i64 s.pY, .int .i64 s.pGain, .int .i64 s.pLow, .int .i64 s.pHigh, .int .i64 s.pUntil] 60)).drew) (by rfl) _ _ _ (by rfl) w4.heap.size 60 ti (.agg #[.int .i64 0, .string .empty, .int .i64 0, .int .i64 0, .int .i64 0, .int .i64 0, .int .i64 0, .int .i64 0]) 8 72 Try.underlying63 hi hz0 hz1 hz2 rfl (by decide) _ (0) ([]) (by rfl) (rA1) _ (k) _ (by rfl) (Q1.out.below KA1) (by unfold maxLen; omega) (by omega) (by first | omega | (simp; done) | (simp; omega)) ?_; intro v5 w5 hr5 hg5 hat5; have B5 : Below w4.heap.size w4 w5 := Below.grown KA1 hg5 (by first | omega | (simp; done) | (simp; omega)) (by intro q hq; cases hq; simp); have r5 : w5.ownsRow w4.heap.size 60 8 v5 k ((ol.take k).flatMap encStation) := (by simpa using hr5); have z5 := B5.size; have b5 := bA1.grown (row := some w4.heap.size) hg5 (by simp); clear hr5 hg5 hat5)
              | (refine step_append_srcK (((w4.alloc (.cells #[.int .i64 s.pId, .string s.pName, .int .i64 s.pX, .int .i64 s.pY, .int .i64 s.pGain, .int .i64 s.pLow, .int .i64 s.pHigh, .int .i64 s.pUntil] 60)).alloc (.cells #[] 60)).drew) (by rfl) _ _ _ (by rfl) w4.heap.size 60 ti (.agg #[.int .i64 0, .string .empty, .int .i64 0, .int .i64 0, .int .i64 0, .int .i64 0, .int .i64 0, .int .i64 0]) 8 72 Try.underlying63 hi hz0 hz1 hz2 rfl (by decide) _ (0) ([]) (by rfl) (rB0) _ (k) _ (by rfl) (Q1.out.below KB0) (by unfold maxLen; omega) (by omega) (by first | omega | (simp; done) | (simp; omega)) ?_; intro v5 w5 hr5 hg5 hat5; have B5 : Below w4.heap.size w4 w5 := Below.grown KB0 hg5 (by first | omega | (simp; done) | (simp; omega)) (by intro q hq; cases hq; simp); have r5 : w5.ownsRow w4.heap.size 60 8 v5 k ((ol.take k).flatMap encStation) := (by simpa using hr5); have z5 := B5.size; have b5 := bB0.grown (row := some (w4.heap.size + 1)) hg5 (by simp); clear hr5 hg5 hat5)
              | (refine step_append_srcK ((w4.alloc (.cells #[] 60)).drew) (by rfl) _ _ _ (by rfl) w4.heap.size 60 ti (.agg #[.int .i64 0, .string .empty, .int .i64 0, .int .i64 0, .int .i64 0, .int .i64 0, .int .i64 0, .int .i64 0]) 8 72 Try.underlying63 hi hz0 hz1 hz2 rfl (by decide) _ (0) ([]) (by rfl) (rA) _ (k) _ (by rfl) (Q1.out.below KA) (by unfold maxLen; omega) (by omega) (by first | omega | (simp; done) | (simp; omega)) ?_; intro v5 w5 hr5 hg5 hat5; have B5 : Below w4.heap.size w4 w5 := Below.grown KA hg5 (by first | omega | (simp; done) | (simp; omega)) (by intro q hq; cases hq; simp); have r5 : w5.ownsRow w4.heap.size 60 8 v5 k ((ol.take k).flatMap encStation) := (by simpa using hr5); have z5 := B5.size; have K5 : Below w4.heap.size w4 (w5.alloc (.cells #[.int .i64 s.pId, .string s.pName, .int .i64 s.pX, .int .i64 s.pY, .int .i64 s.pGain, .int .i64 s.pLow, .int .i64 s.pHigh, .int .i64 s.pUntil] 60)) := B5.alloc B5.size _; have b5V : Bx (w5.alloc (.cells #[.int .i64 s.pId, .string s.pName, .int .i64 s.pX, .int .i64 s.pY, .int .i64 s.pGain, .int .i64 s.pLow, .int .i64 s.pHigh, .int .i64 s.pUntil] 60)) w5.heap.size (encStation s) := Bx.new w5 (encStation s) 60; clear hr5 hg5 hat5)
              | (refine step_append_srcK (w5) (by rfl) _ _ _ (by rfl) w4.heap.size 60 ti (.agg #[.int .i64 0, .string .empty, .int .i64 0, .int .i64 0, .int .i64 0, .int .i64 0, .int .i64 0, .int .i64 0]) 8 72 Try.underlying63 hi hz0 hz1 hz2 rfl (by decide) _ (k) ((ol.take k).flatMap encStation) (by rfl) (r5) _ (1) _ (by rfl) (srcK_box b5 ONE.out) (by unfold maxLen; omega) (by omega) (z5) ?_; intro v6 w6 hr6 hg6 hat6; have B6 : Below w4.heap.size w4 w6 := Below.grown B5 hg6 (by first | omega | (simp; done) | (simp; omega)) (fun q hq => (r5.lt q hq).1); have r6 : w6.ownsRow w4.heap.size 60 8 v6 (k + 1) ((ol.take k).flatMap encStation ++ encStation s) := hr6; have z6 := B6.size; clear hr6 hg6 hat6)
              | (refine step_append_srcK (w5.alloc (.cells #[.int .i64 s.pId, .string s.pName, .int .i64 s.pX, .int .i64 s.pY, .int .i64 s.pGain, .int .i64 s.pLow, .int .i64 s.pHigh, .int .i64 s.pUntil] 60)) (by rfl) _ _ _ (by rfl) w4.heap.size 60 ti (.agg #[.int .i64 0, .string .empty, .int .i64 0, .int .i64 0, .int .i64 0, .int .i64 0, .int .i64 0, .int .i64 0]) 8 72 Try.underlying63 hi hz0 hz1 hz2 rfl (by decide) _ (k) ((ol.take k).flatMap encStation) (by rfl) (r5.alloc _) _ (1) _ (by rfl) (srcK_box b5V ONE.out) (by unfold maxLen; omega) (by omega) (by first | omega | (simp; done) | (simp; omega)) ?_; intro v6 w6 hr6 hg6 hat6; have B6 : Below w4.heap.size w4 w6 := Below.grown K5 hg6 (by first | omega | (simp; done) | (simp; omega)) (fun q hq => (r5.lt q hq).1); have r6 : w6.ownsRow w4.heap.size 60 8 v6 (k + 1) ((ol.take k).flatMap encStation ++ encStation s) := hr6; have z6 := B6.size; clear hr6 hg6 hat6)
              | (refine step_append_srcK (w6) (by rfl) _ _ _ (by rfl) w4.heap.size 60 ti (.agg #[.int .i64 0, .string .empty, .int .i64 0, .int .i64 0, .int .i64 0, .int .i64 0, .int .i64 0, .int .i64 0]) 8 72 Try.underlying63 hi hz0 hz1 hz2 rfl (by decide) _ (k + 1) ((ol.take k).flatMap encStation ++ encStation s) (by rfl) (r6) _ (0) _ (by rfl) (Q2.out.below B6) (by unfold maxLen; omega) (by omega) (z6) ?_; intro v7 w7 hr7 hg7 hat7; have B7 : Below w4.heap.size w4 w7 := Below.grown B6 hg7 (by first | omega | (simp; done) | (simp; omega)) (fun q hq => (r6.lt q hq).1); have r7 : w7.ownsRow w4.heap.size 60 8 v7 (k + 1 + 0) ((ol.take k).flatMap encStation ++ encStation s ++ []) := hr7; have z7 := B7.size; clear hr7 hg7 hat7))
          all_goals
            have h71 : k + 1 + 0 = k + 1 := by omega
            rw [h71] at r7
            obtain ⟨g7, cap7, rfl, hc7, hm7, hL7, -⟩ := row_some r7 (by omega)
            have r8 : w7.ownsRow w1.heap.size 60 8 (.slice (some ⟨g7, 0, none⟩) (k + 1) cap7) (k + 1) ((ol.take k ++ s :: ol.drop k).flatMap encStation) := by
              have := Go.Joins.ownsRow_le r7 (base' := w1.heap.size) (by omega)
              simpa [List.flatMap_append, List.flatMap_cons, List.append_assoc, hd9] using this
            have C7 : Below w1.heap.size w1 w7 := hbl.trans ((hbx.trans (B7.mono hbx.size)).mono hsz)
            clear r7 h71
            go_wp2
            go_roundw
            case rel => exact ⟨k + 1, _, g7, cap7, by omega, by go_num, rfl, HSF2, r8, hc7, hm7, C7⟩
            case measure => simp [intOf]; omega
        have HSF2 := Lib.hid (soFar_succ HGL.out HSF.out HS.out HM.out HL.out (by rw [HOL.out]; exact hm))
        have hx4 := hbx.size
        have hm0 : (0 : Int) ≤ (m : Int) := by omega
        have hm1 : (m : Int) ≤ (k : Int) := by omega
        have hcm5 : (m : Int) ≤ (ocap : Int) := by omega
        have hcm6 : m ≤ ocap := by omega
        have hrow4 := row_below hrow2 hb4
        have e0 := cellOf hb4 (cell_of_lt d0) d0
        have e1 := cellOf hb4 (cell_of_lt d1) d1
        have e2 := cellOf hb4 (cell_of_lt d2) d2
        have e3 := cellOf hb4 (cell_of_lt d3) d3
        have e4 := cellOf hb4 (cell_of_lt d4) d4
        have e5 := cellOf hb4 (cell_of_lt d5) d5
        have e6 := cellOf hb4 (cell_of_lt d6) d6
        have e7 := cellOf hb4 (cell_of_lt d7) d7
        have KA : Below w4.heap.size w4 (w4.alloc (.cells #[] 60)).drew := ((Below.refl _ _).alloc (Nat.le_refl _) _).drew
        have KA1 : Below w4.heap.size w4 ((w4.alloc (.cells #[] 60)).alloc (.cells #[.int .i64 s.pId, .string s.pName, .int .i64 s.pX, .int .i64 s.pY, .int .i64 s.pGain, .int .i64 s.pLow, .int .i64 s.pHigh, .int .i64 s.pUntil] 60)).drew := (((Below.refl _ _).alloc (Nat.le_refl _) _).alloc (by first | omega | (simp; done) | (simp; omega)) _).drew
        have KB : Below w4.heap.size w4 (w4.alloc (.cells #[.int .i64 s.pId, .string s.pName, .int .i64 s.pX, .int .i64 s.pY, .int .i64 s.pGain, .int .i64 s.pLow, .int .i64 s.pHigh, .int .i64 s.pUntil] 60)).drew := ((Below.refl _ _).alloc (Nat.le_refl _) _).drew
        have KB0 : Below w4.heap.size w4 ((w4.alloc (.cells #[.int .i64 s.pId, .string s.pName, .int .i64 s.pX, .int .i64 s.pY, .int .i64 s.pGain, .int .i64 s.pLow, .int .i64 s.pHigh, .int .i64 s.pUntil] 60)).alloc (.cells #[] 60)).drew := (((Below.refl _ _).alloc (Nat.le_refl _) _).alloc (by first | omega | (simp; done) | (simp; omega)) _).drew
        have rA : (w4.alloc (.cells #[] 60)).drew.ownsRow w4.heap.size 60 8 (.slice (some ⟨w4.heap.size, 0, none⟩) 0 0) 0 [] := rowK_empty w4 _ _ (Nat.le_refl _)
        have rA1 : ((w4.alloc (.cells #[] 60)).alloc (.cells #[.int .i64 s.pId, .string s.pName, .int .i64 s.pX, .int .i64 s.pY, .int .i64 s.pGain, .int .i64 s.pLow, .int .i64 s.pHigh, .int .i64 s.pUntil] 60)).drew.ownsRow w4.heap.size 60 8 (.slice (some ⟨w4.heap.size, 0, none⟩) 0 0) 0 [] := (rowK_empty w4 _ _ (Nat.le_refl _)).alloc _
        have rB0 : ((w4.alloc (.cells #[.int .i64 s.pId, .string s.pName, .int .i64 s.pX, .int .i64 s.pY, .int .i64 s.pGain, .int .i64 s.pLow, .int .i64 s.pHigh, .int .i64 s.pUntil] 60)).alloc (.cells #[] 60)).drew.ownsRow w4.heap.size 60 8 (.slice (some ⟨w4.heap.size + 1, 0, none⟩) 0 0) 0 [] := by
          have h9 : ((w4.alloc (.cells #[.int .i64 s.pId, .string s.pName, .int .i64 s.pX, .int .i64 s.pY, .int .i64 s.pGain, .int .i64 s.pLow, .int .i64 s.pHigh, .int .i64 s.pUntil] 60)).alloc (.cells #[] 60)).ownsRow w4.heap.size 60 8 (.slice (some ⟨w4.heap.size + 1, 0, none⟩) 0 0) 0 [] := by
            have := rowK_empty (w4.alloc (.cells #[.int .i64 s.pId, .string s.pName, .int .i64 s.pX, .int .i64 s.pY, .int .i64 s.pGain, .int .i64 s.pLow, .int .i64 s.pHigh, .int .i64 s.pUntil] 60)) (base := w4.heap.size) 60 8 (by first | omega | (simp; done) | (simp; omega))
            simpa using this
          exact h9
        have bA1 : Bx ((w4.alloc (.cells #[] 60)).alloc (.cells #[.int .i64 s.pId, .string s.pName, .int .i64 s.pX, .int .i64 s.pY, .int .i64 s.pGain, .int .i64 s.pLow, .int .i64 s.pHigh, .int .i64 s.pUntil] 60)).drew (w4.heap.size + 1) (encStation s) := Bx.new1 w4 (.cells #[] 60) (encStation s) 60
        have bB0 : Bx ((w4.alloc (.cells #[.int .i64 s.pId, .string s.pName, .int .i64 s.pX, .int .i64 s.pY, .int .i64 s.pGain, .int .i64 s.pLow, .int .i64 s.pHigh, .int .i64 s.pUntil] 60)).alloc (.cells #[] 60)).drew w4.heap.size (encStation s) := (Bx.new w4 (encStation s) 60).alloc _
        have q1 : SrcK w4 8 (.slice (some ⟨g, 0, none⟩) m ocap) m ((ol.take m).flatMap encStation) := by
          have := row_part hrow4 (oneStation ol) 0 m ocap (Nat.zero_le _) hm
          simpa [flat_take encStation_len] using this
        have q2 : SrcK w4 8 (.slice (some ⟨g, m * 8, none⟩) (k - m) (ocap - m)) (k - m) ((ol.drop m).flatMap encStation) := by
          have := row_part hrow4 (oneStation ol) m k (ocap - m) hm (Nat.le_refl _)
          rwa [flat_drop encStation_len, List.take_of_length_le (by rw [flat_len encStation_len, List.length_drop, HOL.out]; exact Nat.le_refl _)] at this
        have one1 : ∀ u ∈ encStation s, u.oneCell' = true := by intro u hu; exact oneStation [s] u (by simpa using hu)
        have hS : ∀ w', Below w4.heap.size w4 w' → Below w4.heap.size w4 w' ∧ w'.cell? ⟨b, off + k * 8, none⟩ = some (.int .i64 s.pId) ∧ w'.cell? ⟨b, off + k * 8 + 1, none⟩ = some (.string s.pName) ∧ w'.cell? ⟨b, off + k * 8 + 2, none⟩ = some (.int .i64 s.pX) ∧ w'.cell? ⟨b, off + k * 8 + 3, none⟩ = some (.int .i64 s.pY) ∧ w'.cell? ⟨b, off + k * 8 + 4, none⟩ = some (.int .i64 s.pGain) ∧ w'.cell? ⟨b, off + k * 8 + 5, none⟩ = some (.int .i64 s.pLow) ∧ w'.cell? ⟨b, off + k * 8 + 6, none⟩ = some (.int .i64 s.pHigh) ∧ w'.cell? ⟨b, off + k * 8 + 7, none⟩ = some (.int .i64 s.pUntil) := fun w' q => ⟨q, cellOf q (cell_of_lt e0) e0, cellOf q (cell_of_lt e1) e1, cellOf q (cell_of_lt e2) e2, cellOf q (cell_of_lt e3) e3, cellOf q (cell_of_lt e4) e4, cellOf q (cell_of_lt e5) e5, cellOf q (cell_of_lt e6) e6, cellOf q (cell_of_lt e7) e7⟩
        have HS0 := Lib.hid hS
        have Q1 := Lib.hid q1
        have Q2 := Lib.hid q2
        have ONE := Lib.hid one1
        clear hS q1 q2 one1
        have hcm : ¬ m = ocap := hcapm
        have hcm4 : ¬ ocap = m := fun h => hcapm h.symm
        have hcm7 : (k : Int) ≤ (ocap : Int) := by omega
        have hcm8 : ¬ (ocap : Int) < (m : Int) := by omega
        have hcm9 : ¬ (k : Int) < (m : Int) := by omega
        have hcm2 : (m : Int) ≤ (k : Int) := hm1
        have hcm3 : m ≤ k := hm
        go_wp2
        go_region_held3 (fun w' => Below w4.heap.size w4 w' ∧ w'.cell? ⟨b, off + k * 8, none⟩ = some (.int .i64 s.pId) ∧ w'.cell? ⟨b, off + k * 8 + 1, none⟩ = some (.string s.pName) ∧ w'.cell? ⟨b, off + k * 8 + 2, none⟩ = some (.int .i64 s.pX) ∧ w'.cell? ⟨b, off + k * 8 + 3, none⟩ = some (.int .i64 s.pY) ∧ w'.cell? ⟨b, off + k * 8 + 4, none⟩ = some (.int .i64 s.pGain) ∧ w'.cell? ⟨b, off + k * 8 + 5, none⟩ = some (.int .i64 s.pLow) ∧ w'.cell? ⟨b, off + k * 8 + 6, none⟩ = some (.int .i64 s.pHigh) ∧ w'.cell? ⟨b, off + k * 8 + 7, none⟩ = some (.int .i64 s.pUntil))
          (first
            | exact HS0.out _ (Below.refl _ _).drew
            | exact HS0.out _ (by with_reducible assumption))
          (first
            | (refine step_append_srcK (((w4.alloc (.cells #[] 60)).alloc (.cells #[.int .i64 s.pId, .string s.pName, .int .i64 s.pX, .int .i64 s.pY, .int .i64 s.pGain, .int .i64 s.pLow, .int .i64 s.pHigh, .int .i64 s.pUntil] 60)).drew) (by rfl) _ _ _ (by rfl) w4.heap.size 60 ti (.agg #[.int .i64 0, .string .empty, .int .i64 0, .int .i64 0, .int .i64 0, .int .i64 0, .int .i64 0, .int .i64 0]) 8 72 Try.underlying63 hi hz0 hz1 hz2 rfl (by decide) _ (0) ([]) (by rfl) (rA1) _ (m) _ (by rfl) (Q1.out.below KA1) (by unfold maxLen; omega) (by omega) (by first | omega | (simp; done) | (simp; omega)) ?_; intro v5 w5 hr5 hg5 hat5; have B5 : Below w4.heap.size w4 w5 := Below.grown KA1 hg5 (by first | omega | (simp; done) | (simp; omega)) (by intro q hq; cases hq; simp); have r5 : w5.ownsRow w4.heap.size 60 8 v5 m ((ol.take m).flatMap encStation) := (by simpa using hr5); have z5 := B5.size; have b5 := bA1.grown (row := some w4.heap.size) hg5 (by simp); clear hr5 hg5 hat5)
            | (refine step_append_srcK (((w4.alloc (.cells #[.int .i64 s.pId, .string s.pName, .int .i64 s.pX, .int .i64 s.pY, .int .i64 s.pGain, .int .i64 s.pLow, .int .i64 s.pHigh, .int .i64 s.pUntil] 60)).alloc (.cells #[] 60)).drew) (by rfl) _ _ _ (by rfl) w4.heap.size 60 ti (.agg #[.int .i64 0, .string .empty, .int .i64 0, .int .i64 0, .int .i64 0, .int .i64 0, .int .i64 0, .int .i64 0]) 8 72 Try.underlying63 hi hz0 hz1 hz2 rfl (by decide) _ (0) ([]) (by rfl) (rB0) _ (m) _ (by rfl) (Q1.out.below KB0) (by unfold maxLen; omega) (by omega) (by first | omega | (simp; done) | (simp; omega)) ?_; intro v5 w5 hr5 hg5 hat5; have B5 : Below w4.heap.size w4 w5 := Below.grown KB0 hg5 (by first | omega | (simp; done) | (simp; omega)) (by intro q hq; cases hq; simp); have r5 : w5.ownsRow w4.heap.size 60 8 v5 m ((ol.take m).flatMap encStation) := (by simpa using hr5); have z5 := B5.size; have b5 := bB0.grown (row := some (w4.heap.size + 1)) hg5 (by simp); clear hr5 hg5 hat5)
            | (refine step_append_srcK ((w4.alloc (.cells #[] 60)).drew) (by rfl) _ _ _ (by rfl) w4.heap.size 60 ti (.agg #[.int .i64 0, .string .empty, .int .i64 0, .int .i64 0, .int .i64 0, .int .i64 0, .int .i64 0, .int .i64 0]) 8 72 Try.underlying63 hi hz0 hz1 hz2 rfl (by decide) _ (0) ([]) (by rfl) (rA) _ (m) _ (by rfl) (Q1.out.below KA) (by unfold maxLen; omega) (by omega) (by first | omega | (simp; done) | (simp; omega)) ?_; intro v5 w5 hr5 hg5 hat5; have B5 : Below w4.heap.size w4 w5 := Below.grown KA hg5 (by first | omega | (simp; done) | (simp; omega)) (by intro q hq; cases hq; simp); have r5 : w5.ownsRow w4.heap.size 60 8 v5 m ((ol.take m).flatMap encStation) := (by simpa using hr5); have z5 := B5.size; have K5 : Below w4.heap.size w4 (w5.alloc (.cells #[.int .i64 s.pId, .string s.pName, .int .i64 s.pX, .int .i64 s.pY, .int .i64 s.pGain, .int .i64 s.pLow, .int .i64 s.pHigh, .int .i64 s.pUntil] 60)) := B5.alloc B5.size _; have b5V : Bx (w5.alloc (.cells #[.int .i64 s.pId, .string s.pName, .int .i64 s.pX, .int .i64 s.pY, .int .i64 s.pGain, .int .i64 s.pLow, .int .i64 s.pHigh, .int .i64 s.pUntil] 60)) w5.heap.size (encStation s) := Bx.new w5 (encStation s) 60; clear hr5 hg5 hat5)
            | (refine step_append_srcK (w5) (by rfl) _ _ _ (by rfl) w4.heap.size 60 ti (.agg #[.int .i64 0, .string .empty, .int .i64 0, .int .i64 0, .int .i64 0, .int .i64 0, .int .i64 0, .int .i64 0]) 8 72 Try.underlying63 hi hz0 hz1 hz2 rfl (by decide) _ (m) ((ol.take m).flatMap encStation) (by rfl) (r5) _ (1) _ (by rfl) (srcK_box b5 ONE.out) (by unfold maxLen; omega) (by omega) (z5) ?_; intro v6 w6 hr6 hg6 hat6; have B6 : Below w4.heap.size w4 w6 := Below.grown B5 hg6 (by first | omega | (simp; done) | (simp; omega)) (fun q hq => (r5.lt q hq).1); have r6 : w6.ownsRow w4.heap.size 60 8 v6 (m + 1) ((ol.take m).flatMap encStation ++ encStation s) := hr6; have z6 := B6.size; clear hr6 hg6 hat6)
            | (refine step_append_srcK (w5.alloc (.cells #[.int .i64 s.pId, .string s.pName, .int .i64 s.pX, .int .i64 s.pY, .int .i64 s.pGain, .int .i64 s.pLow, .int .i64 s.pHigh, .int .i64 s.pUntil] 60)) (by rfl) _ _ _ (by rfl) w4.heap.size 60 ti (.agg #[.int .i64 0, .string .empty, .int .i64 0, .int .i64 0, .int .i64 0, .int .i64 0, .int .i64 0, .int .i64 0]) 8 72 Try.underlying63 hi hz0 hz1 hz2 rfl (by decide) _ (m) ((ol.take m).flatMap encStation) (by rfl) (r5.alloc _) _ (1) _ (by rfl) (srcK_box b5V ONE.out) (by unfold maxLen; omega) (by omega) (by first | omega | (simp; done) | (simp; omega)) ?_; intro v6 w6 hr6 hg6 hat6; have B6 : Below w4.heap.size w4 w6 := Below.grown K5 hg6 (by first | omega | (simp; done) | (simp; omega)) (fun q hq => (r5.lt q hq).1); have r6 : w6.ownsRow w4.heap.size 60 8 v6 (m + 1) ((ol.take m).flatMap encStation ++ encStation s) := hr6; have z6 := B6.size; clear hr6 hg6 hat6)
            | (refine step_append_srcK (w6) (by rfl) _ _ _ (by rfl) w4.heap.size 60 ti (.agg #[.int .i64 0, .string .empty, .int .i64 0, .int .i64 0, .int .i64 0, .int .i64 0, .int .i64 0, .int .i64 0]) 8 72 Try.underlying63 hi hz0 hz1 hz2 rfl (by decide) _ (m + 1) ((ol.take m).flatMap encStation ++ encStation s) (by rfl) (r6) _ (k - m) _ (by rfl) (Q2.out.below B6) (by unfold maxLen; omega) (by omega) (z6) ?_; intro v7 w7 hr7 hg7 hat7; have B7 : Below w4.heap.size w4 w7 := Below.grown B6 hg7 (by first | omega | (simp; done) | (simp; omega)) (fun q hq => (r6.lt q hq).1); have r7 : w7.ownsRow w4.heap.size 60 8 v7 (m + 1 + (k - m)) ((ol.take m).flatMap encStation ++ encStation s ++ (ol.drop m).flatMap encStation) := hr7; have z7 := B7.size; clear hr7 hg7 hat7))
        all_goals
          have h71 : m + 1 + (k - m) = k + 1 := by omega
          rw [h71] at r7
          obtain ⟨g7, cap7, rfl, hc7, hm7, hL7, -⟩ := row_some r7 (by omega)
          have r8 : w7.ownsRow w1.heap.size 60 8 (.slice (some ⟨g7, 0, none⟩) (k + 1) cap7) (k + 1) ((ol.take m ++ s :: ol.drop m).flatMap encStation) := by
            have := Go.Joins.ownsRow_le r7 (base' := w1.heap.size) (by omega)
            simpa [List.flatMap_append, List.flatMap_cons, List.append_assoc] using this
          have C7 : Below w1.heap.size w1 w7 := hbl.trans ((hbx.trans (B7.mono hbx.size)).mono hsz)
          clear r7 h71
          go_wp2
          go_roundw
          case rel => exact ⟨k + 1, _, g7, cap7, by omega, by go_num, rfl, HSF2, r8, hc7, hm7, C7⟩
          case measure => simp [intOf]; omega
      have m1 : 1 ≤ m := by omega
      clear hm0
      obtain ⟨t, ht⟩ := get_of_lt (l := ol) (k := m - 1) (by rw [HOL.out]; omega)
      obtain ⟨jj, hjj⟩ := List.mem_iff_getElem?.1 (soFar_mem HSF.out (List.mem_of_getElem? ht))
      have gt := goodS_bounds (goodL_at HGL.out hjj)
      clear hjj
      obtain ⟨-, -, -, tc, -⟩ := OwnK.at (OwnK.of_row encStation_len (by omega) hrow2) ht
      have t0 : wr.cell? ⟨g, (m - 1) * 8, none⟩ = some (.int .i64 t.pId) := by have := tc 0 _ rfl; simpa using this
      have t1 : wr.cell? ⟨g, (m - 1) * 8 + 1, none⟩ = some (.string t.pName) := by have := tc 1 _ rfl; simpa using this
      have t2 : wr.cell? ⟨g, (m - 1) * 8 + 2, none⟩ = some (.int .i64 t.pX) := by have := tc 2 _ rfl; simpa using this
      have t3 : wr.cell? ⟨g, (m - 1) * 8 + 3, none⟩ = some (.int .i64 t.pY) := by have := tc 3 _ rfl; simpa using this
      have t4 : wr.cell? ⟨g, (m - 1) * 8 + 4, none⟩ = some (.int .i64 t.pGain) := by have := tc 4 _ rfl; simpa using this
      have t5 : wr.cell? ⟨g, (m - 1) * 8 + 5, none⟩ = some (.int .i64 t.pLow) := by have := tc 5 _ rfl; simpa using this
      have t6 : wr.cell? ⟨g, (m - 1) * 8 + 6, none⟩ = some (.int .i64 t.pHigh) := by have := tc 6 _ rfl; simpa using this
      have t7 : wr.cell? ⟨g, (m - 1) * 8 + 7, none⟩ = some (.int .i64 t.pUntil) := by have := tc 7 _ rfl; simpa using this
      have HT := Lib.hid ht
      clear ht tc
      have ST := Lib.hid (fun W => specSq t x y W (by omega) (by omega) hx hy)
      have mp0 : (0 : Int) < (m : Int) := by omega
      have mp1 : 0 < m := by omega
      have mp2 : (0 : Int) ≤ (m : Int) - 1 := by omega
      have mp3 : (m : Int) - 1 < (k : Int) := by omega
      have mp4 : ((m : Int) - 1).toNat = m - 1 := by omega
      have mp5 : IntKind.i64.wrap ((m : Int) - 1) = (m : Int) - 1 := IntWalk.i64_in _ (by omega)
      have mp6 : (m : Int) ≤ 10 := by omega
      have cs := fun d os => Calls.regrown_of (w := wr) (d := d) (os := os) (SS.out _)
      have ct := fun d os => Calls.regrown_of (w := wr) (d := d) (os := os) (ST.out _)
      generalize hdt : sqd t x y = dt at *
      have HDT := Lib.hid hdt
      clear hdt
      have rd0 := cell_regrown d0
      have rd1 := cell_regrown d1
      have rd2 := cell_regrown d2
      have rd3 := cell_regrown d3
      have rd4 := cell_regrown d4
      have rd5 := cell_regrown d5
      have rd6 := cell_regrown d6
      have rd7 := cell_regrown d7
      have rt0 := cell_regrown t0
      have rt1 := cell_regrown t1
      have rt2 := cell_regrown t2
      have rt3 := cell_regrown t3
      have rt4 := cell_regrown t4
      have rt5 := cell_regrown t5
      have rt6 := cell_regrown t6
      have rt7 := cell_regrown t7
      by_cases hgt : ds < dt
      case pos =>
        have HM2 : Hid (∀ j t, ol[j]? = some t → m - 1 ≤ j → sqd s x y < sqd t x y) := Lib.hid (fun j u hu hj => by
          by_cases e : j = m - 1
          · subst e; rw [HT.out] at hu; cases hu; rw [HDS.out, HDT.out]; exact hgt
          · exact HM.out j u hu (by omega))
        go_wp2
        refine wp_region_quiet_below (by kernel_rfl) (by kernel_rfl) ?_
        repeat (go_big_quiet_step (first | with_reducible exact cs _ _ | with_reducible exact ct _ _))
        refine wpQuiet_nil ?_
        intro _ hw'
        obtain ⟨⟨dq, osq⟩, hw''⟩ := hw'
        subst hw''
        have hb4 := below_regrown (wr) dq osq
        generalize grow (redrawn (wr) dq) osq = w4 at *
        clear cs ct
        go_wp2
        go_roundw
        case rel => exact ⟨m - 1, by omega, by go_num, HM2, hbi.trans (hb4.mono hszi)⟩
        case measure => first | (simp [intOf]; done) | (simp [intOf]; omega) | (unfold intOf; omega)
      have HL : Hid (∀ u, ol[m - 1]? = some u → 0 < m → sqd u x y ≤ sqd s x y) := Lib.hid (fun u hu _ => by
        rw [HT.out] at hu; cases hu; rw [HDS.out, HDT.out]; omega)
      go_wp2
      refine wp_region_quiet_below (by kernel_rfl) (by kernel_rfl) ?_
      repeat (go_big_quiet_step (first | with_reducible exact cs _ _ | with_reducible exact ct _ _))
      refine wpQuiet_nil ?_
      intro _ hw'
      obtain ⟨⟨dq, osq⟩, hw''⟩ := hw'
      subst hw''
      have hb4 := below_regrown (wr) dq osq
      generalize grow (redrawn (wr) dq) osq = w4 at *
      clear cs ct mp2 mp3 mp4 mp5 mp6 HT HDT t0 t1 t2 t3 t4 t5 t6 t7 rt0 rt1 rt2 rt3 rt4 rt5 rt6 rt7 rd0 rd1 rd2 rd3 rd4 rd5 rd6 rd7 ST
      have hbx := hbi.trans (hb4.mono hszi)
      by_cases hcapm : m = ocap
      case pos =>
        have hkm : k = m := by omega
        subst hkm
        subst hcapm
        have hd9 : ol.drop k = [] := List.drop_of_length_le (by rw [HOL.out]; omega)
        have HSF2 := Lib.hid (soFar_succ HGL.out HSF.out HS.out HM.out HL.out (by rw [HOL.out]; exact hm))
        have hx4 := hbx.size
        have hm0 : (0 : Int) ≤ (k : Int) := by omega
        have hm1 : (k : Int) ≤ (k : Int) := by omega
        have hcm5 : (k : Int) ≤ (k : Int) := by omega
        have hcm6 : k ≤ k := by omega
        have hrow4 := row_below hrow2 hb4
        have e0 := cellOf hb4 (cell_of_lt d0) d0
        have e1 := cellOf hb4 (cell_of_lt d1) d1
        have e2 := cellOf hb4 (cell_of_lt d2) d2
        have e3 := cellOf hb4 (cell_of_lt d3) d3
        have e4 := cellOf hb4 (cell_of_lt d4) d4
        have e5 := cellOf hb4 (cell_of_lt d5) d5
        have e6 := cellOf hb4 (cell_of_lt d6) d6
        have e7 := cellOf hb4 (cell_of_lt d7) d7
        have KA : Below w4.heap.size w4 (w4.alloc (.cells #[] 60)).drew := ((Below.refl _ _).alloc (Nat.le_refl _) _).drew
        have KA1 : Below w4.heap.size w4 ((w4.alloc (.cells #[] 60)).alloc (.cells #[.int .i64 s.pId, .string s.pName, .int .i64 s.pX, .int .i64 s.pY, .int .i64 s.pGain, .int .i64 s.pLow, .int .i64 s.pHigh, .int .i64 s.pUntil] 60)).drew := (((Below.refl _ _).alloc (Nat.le_refl _) _).alloc (by first | omega | (simp; done) | (simp; omega)) _).drew
        have KB : Below w4.heap.size w4 (w4.alloc (.cells #[.int .i64 s.pId, .string s.pName, .int .i64 s.pX, .int .i64 s.pY, .int .i64 s.pGain, .int .i64 s.pLow, .int .i64 s.pHigh, .int .i64 s.pUntil] 60)).drew := ((Below.refl _ _).alloc (Nat.le_refl _) _).drew
        have KB0 : Below w4.heap.size w4 ((w4.alloc (.cells #[.int .i64 s.pId, .string s.pName, .int .i64 s.pX, .int .i64 s.pY, .int .i64 s.pGain, .int .i64 s.pLow, .int .i64 s.pHigh, .int .i64 s.pUntil] 60)).alloc (.cells #[] 60)).drew := (((Below.refl _ _).alloc (Nat.le_refl _) _).alloc (by first | omega | (simp; done) | (simp; omega)) _).drew
        have rA : (w4.alloc (.cells #[] 60)).drew.ownsRow w4.heap.size 60 8 (.slice (some ⟨w4.heap.size, 0, none⟩) 0 0) 0 [] := rowK_empty w4 _ _ (Nat.le_refl _)
        have rA1 : ((w4.alloc (.cells #[] 60)).alloc (.cells #[.int .i64 s.pId, .string s.pName, .int .i64 s.pX, .int .i64 s.pY, .int .i64 s.pGain, .int .i64 s.pLow, .int .i64 s.pHigh, .int .i64 s.pUntil] 60)).drew.ownsRow w4.heap.size 60 8 (.slice (some ⟨w4.heap.size, 0, none⟩) 0 0) 0 [] := (rowK_empty w4 _ _ (Nat.le_refl _)).alloc _
        have rB0 : ((w4.alloc (.cells #[.int .i64 s.pId, .string s.pName, .int .i64 s.pX, .int .i64 s.pY, .int .i64 s.pGain, .int .i64 s.pLow, .int .i64 s.pHigh, .int .i64 s.pUntil] 60)).alloc (.cells #[] 60)).drew.ownsRow w4.heap.size 60 8 (.slice (some ⟨w4.heap.size + 1, 0, none⟩) 0 0) 0 [] := by
          have h9 : ((w4.alloc (.cells #[.int .i64 s.pId, .string s.pName, .int .i64 s.pX, .int .i64 s.pY, .int .i64 s.pGain, .int .i64 s.pLow, .int .i64 s.pHigh, .int .i64 s.pUntil] 60)).alloc (.cells #[] 60)).ownsRow w4.heap.size 60 8 (.slice (some ⟨w4.heap.size + 1, 0, none⟩) 0 0) 0 [] := by
            have := rowK_empty (w4.alloc (.cells #[.int .i64 s.pId, .string s.pName, .int .i64 s.pX, .int .i64 s.pY, .int .i64 s.pGain, .int .i64 s.pLow, .int .i64 s.pHigh, .int .i64 s.pUntil] 60)) (base := w4.heap.size) 60 8 (by first | omega | (simp; done) | (simp; omega))
            simpa using this
          exact h9
        have bA1 : Bx ((w4.alloc (.cells #[] 60)).alloc (.cells #[.int .i64 s.pId, .string s.pName, .int .i64 s.pX, .int .i64 s.pY, .int .i64 s.pGain, .int .i64 s.pLow, .int .i64 s.pHigh, .int .i64 s.pUntil] 60)).drew (w4.heap.size + 1) (encStation s) := Bx.new1 w4 (.cells #[] 60) (encStation s) 60
        have bB0 : Bx ((w4.alloc (.cells #[.int .i64 s.pId, .string s.pName, .int .i64 s.pX, .int .i64 s.pY, .int .i64 s.pGain, .int .i64 s.pLow, .int .i64 s.pHigh, .int .i64 s.pUntil] 60)).alloc (.cells #[] 60)).drew w4.heap.size (encStation s) := (Bx.new w4 (encStation s) 60).alloc _
        have q1 : SrcK w4 8 (.slice (some ⟨g, 0, none⟩) k k) k ((ol.take k).flatMap encStation) := by
          have := row_part hrow4 (oneStation ol) 0 k k (Nat.zero_le _) hm
          simpa [flat_take encStation_len] using this
        have q2 : SrcK w4 8 (.slice (some ⟨g, 0, none⟩) 0 0) 0 [] := srcK_nil _ _ _ _
        have one1 : ∀ u ∈ encStation s, u.oneCell' = true := by intro u hu; exact oneStation [s] u (by simpa using hu)
        have hS : ∀ w', Below w4.heap.size w4 w' → Below w4.heap.size w4 w' ∧ w'.cell? ⟨b, off + k * 8, none⟩ = some (.int .i64 s.pId) ∧ w'.cell? ⟨b, off + k * 8 + 1, none⟩ = some (.string s.pName) ∧ w'.cell? ⟨b, off + k * 8 + 2, none⟩ = some (.int .i64 s.pX) ∧ w'.cell? ⟨b, off + k * 8 + 3, none⟩ = some (.int .i64 s.pY) ∧ w'.cell? ⟨b, off + k * 8 + 4, none⟩ = some (.int .i64 s.pGain) ∧ w'.cell? ⟨b, off + k * 8 + 5, none⟩ = some (.int .i64 s.pLow) ∧ w'.cell? ⟨b, off + k * 8 + 6, none⟩ = some (.int .i64 s.pHigh) ∧ w'.cell? ⟨b, off + k * 8 + 7, none⟩ = some (.int .i64 s.pUntil) := fun w' q => ⟨q, cellOf q (cell_of_lt e0) e0, cellOf q (cell_of_lt e1) e1, cellOf q (cell_of_lt e2) e2, cellOf q (cell_of_lt e3) e3, cellOf q (cell_of_lt e4) e4, cellOf q (cell_of_lt e5) e5, cellOf q (cell_of_lt e6) e6, cellOf q (cell_of_lt e7) e7⟩
        have HS0 := Lib.hid hS
        have Q1 := Lib.hid q1
        have Q2 := Lib.hid q2
        have ONE := Lib.hid one1
        clear hS q1 q2 one1
        go_wp2
        go_region_held3 (fun w' => Below w4.heap.size w4 w' ∧ w'.cell? ⟨b, off + k * 8, none⟩ = some (.int .i64 s.pId) ∧ w'.cell? ⟨b, off + k * 8 + 1, none⟩ = some (.string s.pName) ∧ w'.cell? ⟨b, off + k * 8 + 2, none⟩ = some (.int .i64 s.pX) ∧ w'.cell? ⟨b, off + k * 8 + 3, none⟩ = some (.int .i64 s.pY) ∧ w'.cell? ⟨b, off + k * 8 + 4, none⟩ = some (.int .i64 s.pGain) ∧ w'.cell? ⟨b, off + k * 8 + 5, none⟩ = some (.int .i64 s.pLow) ∧ w'.cell? ⟨b, off + k * 8 + 6, none⟩ = some (.int .i64 s.pHigh) ∧ w'.cell? ⟨b, off + k * 8 + 7, none⟩ = some (.int .i64 s.pUntil))
          (first
            | exact HS0.out _ (Below.refl _ _).drew
            | exact HS0.out _ (by with_reducible assumption))
          (first
            | (refine step_append_srcK (((w4.alloc (.cells #[] 60)).alloc (.cells #[.int .i64 s.pId, .string s.pName, .int .i64 s.pX, .int .i64 s.pY, .int .i64 s.pGain, .int .i64 s.pLow, .int .i64 s.pHigh, .int .i64 s.pUntil] 60)).drew) (by rfl) _ _ _ (by rfl) w4.heap.size 60 ti (.agg #[.int .i64 0, .string .empty, .int .i64 0, .int .i64 0, .int .i64 0, .int .i64 0, .int .i64 0, .int .i64 0]) 8 72 Try.underlying63 hi hz0 hz1 hz2 rfl (by decide) _ (0) ([]) (by rfl) (rA1) _ (k) _ (by rfl) (Q1.out.below KA1) (by unfold maxLen; omega) (by omega) (by first | omega | (simp; done) | (simp; omega)) ?_; intro v5 w5 hr5 hg5 hat5; have B5 : Below w4.heap.size w4 w5 := Below.grown KA1 hg5 (by first | omega | (simp; done) | (simp; omega)) (by intro q hq; cases hq; simp); have r5 : w5.ownsRow w4.heap.size 60 8 v5 k ((ol.take k).flatMap encStation) := (by simpa using hr5); have z5 := B5.size; have b5 := bA1.grown (row := some w4.heap.size) hg5 (by simp); clear hr5 hg5 hat5)
            | (refine step_append_srcK (((w4.alloc (.cells #[.int .i64 s.pId, .string s.pName, .int .i64 s.pX, .int .i64 s.pY, .int .i64 s.pGain, .int .i64 s.pLow, .int .i64 s.pHigh, .int .i64 s.pUntil] 60)).alloc (.cells #[] 60)).drew) (by rfl) _ _ _ (by rfl) w4.heap.size 60 ti (.agg #[.int .i64 0, .string .empty, .int .i64 0, .int .i64 0, .int .i64 0, .int .i64 0, .int .i64 0, .int .i64 0]) 8 72 Try.underlying63 hi hz0 hz1 hz2 rfl (by decide) _ (0) ([]) (by rfl) (rB0) _ (k) _ (by rfl) (Q1.out.below KB0) (by unfold maxLen; omega) (by omega) (by first | omega | (simp; done) | (simp; omega)) ?_; intro v5 w5 hr5 hg5 hat5; have B5 : Below w4.heap.size w4 w5 := Below.grown KB0 hg5 (by first | omega | (simp; done) | (simp; omega)) (by intro q hq; cases hq; simp); have r5 : w5.ownsRow w4.heap.size 60 8 v5 k ((ol.take k).flatMap encStation) := (by simpa using hr5); have z5 := B5.size; have b5 := bB0.grown (row := some (w4.heap.size + 1)) hg5 (by simp); clear hr5 hg5 hat5)
            | (refine step_append_srcK ((w4.alloc (.cells #[] 60)).drew) (by rfl) _ _ _ (by rfl) w4.heap.size 60 ti (.agg #[.int .i64 0, .string .empty, .int .i64 0, .int .i64 0, .int .i64 0, .int .i64 0, .int .i64 0, .int .i64 0]) 8 72 Try.underlying63 hi hz0 hz1 hz2 rfl (by decide) _ (0) ([]) (by rfl) (rA) _ (k) _ (by rfl) (Q1.out.below KA) (by unfold maxLen; omega) (by omega) (by first | omega | (simp; done) | (simp; omega)) ?_; intro v5 w5 hr5 hg5 hat5; have B5 : Below w4.heap.size w4 w5 := Below.grown KA hg5 (by first | omega | (simp; done) | (simp; omega)) (by intro q hq; cases hq; simp); have r5 : w5.ownsRow w4.heap.size 60 8 v5 k ((ol.take k).flatMap encStation) := (by simpa using hr5); have z5 := B5.size; have K5 : Below w4.heap.size w4 (w5.alloc (.cells #[.int .i64 s.pId, .string s.pName, .int .i64 s.pX, .int .i64 s.pY, .int .i64 s.pGain, .int .i64 s.pLow, .int .i64 s.pHigh, .int .i64 s.pUntil] 60)) := B5.alloc B5.size _; have b5V : Bx (w5.alloc (.cells #[.int .i64 s.pId, .string s.pName, .int .i64 s.pX, .int .i64 s.pY, .int .i64 s.pGain, .int .i64 s.pLow, .int .i64 s.pHigh, .int .i64 s.pUntil] 60)) w5.heap.size (encStation s) := Bx.new w5 (encStation s) 60; clear hr5 hg5 hat5)
            | (refine step_append_srcK (w5) (by rfl) _ _ _ (by rfl) w4.heap.size 60 ti (.agg #[.int .i64 0, .string .empty, .int .i64 0, .int .i64 0, .int .i64 0, .int .i64 0, .int .i64 0, .int .i64 0]) 8 72 Try.underlying63 hi hz0 hz1 hz2 rfl (by decide) _ (k) ((ol.take k).flatMap encStation) (by rfl) (r5) _ (1) _ (by rfl) (srcK_box b5 ONE.out) (by unfold maxLen; omega) (by omega) (z5) ?_; intro v6 w6 hr6 hg6 hat6; have B6 : Below w4.heap.size w4 w6 := Below.grown B5 hg6 (by first | omega | (simp; done) | (simp; omega)) (fun q hq => (r5.lt q hq).1); have r6 : w6.ownsRow w4.heap.size 60 8 v6 (k + 1) ((ol.take k).flatMap encStation ++ encStation s) := hr6; have z6 := B6.size; clear hr6 hg6 hat6)
            | (refine step_append_srcK (w5.alloc (.cells #[.int .i64 s.pId, .string s.pName, .int .i64 s.pX, .int .i64 s.pY, .int .i64 s.pGain, .int .i64 s.pLow, .int .i64 s.pHigh, .int .i64 s.pUntil] 60)) (by rfl) _ _ _ (by rfl) w4.heap.size 60 ti (.agg #[.int .i64 0, .string .empty, .int .i64 0, .int .i64 0, .int .i64 0, .int .i64 0, .int .i64 0, .int .i64 0]) 8 72 Try.underlying63 hi hz0 hz1 hz2 rfl (by decide) _ (k) ((ol.take k).flatMap encStation) (by rfl) (r5.alloc _) _ (1) _ (by rfl) (srcK_box b5V ONE.out) (by unfold maxLen; omega) (by omega) (by first | omega | (simp; done) | (simp; omega)) ?_; intro v6 w6 hr6 hg6 hat6; have B6 : Below w4.heap.size w4 w6 := Below.grown K5 hg6 (by first | omega | (simp; done) | (simp; omega)) (fun q hq => (r5.lt q hq).1); have r6 : w6.ownsRow w4.heap.size 60 8 v6 (k + 1) ((ol.take k).flatMap encStation ++ encStation s) := hr6; have z6 := B6.size; clear hr6 hg6 hat6)
            | (refine step_append_srcK (w6) (by rfl) _ _ _ (by rfl) w4.heap.size 60 ti (.agg #[.int .i64 0, .string .empty, .int .i64 0, .int .i64 0, .int .i64 0, .int .i64 0, .int .i64 0, .int .i64 0]) 8 72 Try.underlying63 hi hz0 hz1 hz2 rfl (by decide) _ (k + 1) ((ol.take k).flatMap encStation ++ encStation s) (by rfl) (r6) _ (0) _ (by rfl) (Q2.out.below B6) (by unfold maxLen; omega) (by omega) (z6) ?_; intro v7 w7 hr7 hg7 hat7; have B7 : Below w4.heap.size w4 w7 := Below.grown B6 hg7 (by first | omega | (simp; done) | (simp; omega)) (fun q hq => (r6.lt q hq).1); have r7 : w7.ownsRow w4.heap.size 60 8 v7 (k + 1 + 0) ((ol.take k).flatMap encStation ++ encStation s ++ []) := hr7; have z7 := B7.size; clear hr7 hg7 hat7))
        all_goals
          have h71 : k + 1 + 0 = k + 1 := by omega
          rw [h71] at r7
          obtain ⟨g7, cap7, rfl, hc7, hm7, hL7, -⟩ := row_some r7 (by omega)
          have r8 : w7.ownsRow w1.heap.size 60 8 (.slice (some ⟨g7, 0, none⟩) (k + 1) cap7) (k + 1) ((ol.take k ++ s :: ol.drop k).flatMap encStation) := by
            have := Go.Joins.ownsRow_le r7 (base' := w1.heap.size) (by omega)
            simpa [List.flatMap_append, List.flatMap_cons, List.append_assoc, hd9] using this
          have C7 : Below w1.heap.size w1 w7 := hbl.trans ((hbx.trans (B7.mono hbx.size)).mono hsz)
          clear r7 h71
          go_wp2
          go_roundw
          case rel => exact ⟨k + 1, _, g7, cap7, by omega, by go_num, rfl, HSF2, r8, hc7, hm7, C7⟩
          case measure => simp [intOf]; omega
      have HSF2 := Lib.hid (soFar_succ HGL.out HSF.out HS.out HM.out HL.out (by rw [HOL.out]; exact hm))
      have hx4 := hbx.size
      have hm0 : (0 : Int) ≤ (m : Int) := by omega
      have hm1 : (m : Int) ≤ (k : Int) := by omega
      have hcm5 : (m : Int) ≤ (ocap : Int) := by omega
      have hcm6 : m ≤ ocap := by omega
      have hrow4 := row_below hrow2 hb4
      have e0 := cellOf hb4 (cell_of_lt d0) d0
      have e1 := cellOf hb4 (cell_of_lt d1) d1
      have e2 := cellOf hb4 (cell_of_lt d2) d2
      have e3 := cellOf hb4 (cell_of_lt d3) d3
      have e4 := cellOf hb4 (cell_of_lt d4) d4
      have e5 := cellOf hb4 (cell_of_lt d5) d5
      have e6 := cellOf hb4 (cell_of_lt d6) d6
      have e7 := cellOf hb4 (cell_of_lt d7) d7
      have KA : Below w4.heap.size w4 (w4.alloc (.cells #[] 60)).drew := ((Below.refl _ _).alloc (Nat.le_refl _) _).drew
      have KA1 : Below w4.heap.size w4 ((w4.alloc (.cells #[] 60)).alloc (.cells #[.int .i64 s.pId, .string s.pName, .int .i64 s.pX, .int .i64 s.pY, .int .i64 s.pGain, .int .i64 s.pLow, .int .i64 s.pHigh, .int .i64 s.pUntil] 60)).drew := (((Below.refl _ _).alloc (Nat.le_refl _) _).alloc (by first | omega | (simp; done) | (simp; omega)) _).drew
      have KB : Below w4.heap.size w4 (w4.alloc (.cells #[.int .i64 s.pId, .string s.pName, .int .i64 s.pX, .int .i64 s.pY, .int .i64 s.pGain, .int .i64 s.pLow, .int .i64 s.pHigh, .int .i64 s.pUntil] 60)).drew := ((Below.refl _ _).alloc (Nat.le_refl _) _).drew
      have KB0 : Below w4.heap.size w4 ((w4.alloc (.cells #[.int .i64 s.pId, .string s.pName, .int .i64 s.pX, .int .i64 s.pY, .int .i64 s.pGain, .int .i64 s.pLow, .int .i64 s.pHigh, .int .i64 s.pUntil] 60)).alloc (.cells #[] 60)).drew := (((Below.refl _ _).alloc (Nat.le_refl _) _).alloc (by first | omega | (simp; done) | (simp; omega)) _).drew
      have rA : (w4.alloc (.cells #[] 60)).drew.ownsRow w4.heap.size 60 8 (.slice (some ⟨w4.heap.size, 0, none⟩) 0 0) 0 [] := rowK_empty w4 _ _ (Nat.le_refl _)
      have rA1 : ((w4.alloc (.cells #[] 60)).alloc (.cells #[.int .i64 s.pId, .string s.pName, .int .i64 s.pX, .int .i64 s.pY, .int .i64 s.pGain, .int .i64 s.pLow, .int .i64 s.pHigh, .int .i64 s.pUntil] 60)).drew.ownsRow w4.heap.size 60 8 (.slice (some ⟨w4.heap.size, 0, none⟩) 0 0) 0 [] := (rowK_empty w4 _ _ (Nat.le_refl _)).alloc _
      have rB0 : ((w4.alloc (.cells #[.int .i64 s.pId, .string s.pName, .int .i64 s.pX, .int .i64 s.pY, .int .i64 s.pGain, .int .i64 s.pLow, .int .i64 s.pHigh, .int .i64 s.pUntil] 60)).alloc (.cells #[] 60)).drew.ownsRow w4.heap.size 60 8 (.slice (some ⟨w4.heap.size + 1, 0, none⟩) 0 0) 0 [] := by
        have h9 : ((w4.alloc (.cells #[.int .i64 s.pId, .string s.pName, .int .i64 s.pX, .int .i64 s.pY, .int .i64 s.pGain, .int .i64 s.pLow, .int .i64 s.pHigh, .int .i64 s.pUntil] 60)).alloc (.cells #[] 60)).ownsRow w4.heap.size 60 8 (.slice (some ⟨w4.heap.size + 1, 0, none⟩) 0 0) 0 [] := by
          have := rowK_empty (w4.alloc (.cells #[.int .i64 s.pId, .string s.pName, .int .i64 s.pX, .int .i64 s.pY, .int .i64 s.pGain, .int .i64 s.pLow, .int .i64 s.pHigh, .int .i64 s.pUntil] 60)) (base := w4.heap.size) 60 8 (by first | omega | (simp; done) | (simp; omega))
          simpa using this
        exact h9
      have bA1 : Bx ((w4.alloc (.cells #[] 60)).alloc (.cells #[.int .i64 s.pId, .string s.pName, .int .i64 s.pX, .int .i64 s.pY, .int .i64 s.pGain, .int .i64 s.pLow, .int .i64 s.pHigh, .int .i64 s.pUntil] 60)).drew (w4.heap.size + 1) (encStation s) := Bx.new1 w4 (.cells #[] 60) (encStation s) 60
      have bB0 : Bx ((w4.alloc (.cells #[.int .i64 s.pId, .string s.pName, .int .i64 s.pX, .int .i64 s.pY, .int .i64 s.pGain, .int .i64 s.pLow, .int .i64 s.pHigh, .int .i64 s.pUntil] 60)).alloc (.cells #[] 60)).drew w4.heap.size (encStation s) := (Bx.new w4 (encStation s) 60).alloc _
      have q1 : SrcK w4 8 (.slice (some ⟨g, 0, none⟩) m ocap) m ((ol.take m).flatMap encStation) := by
        have := row_part hrow4 (oneStation ol) 0 m ocap (Nat.zero_le _) hm
        simpa [flat_take encStation_len] using this
      have q2 : SrcK w4 8 (.slice (some ⟨g, m * 8, none⟩) (k - m) (ocap - m)) (k - m) ((ol.drop m).flatMap encStation) := by
        have := row_part hrow4 (oneStation ol) m k (ocap - m) hm (Nat.le_refl _)
        rwa [flat_drop encStation_len, List.take_of_length_le (by rw [flat_len encStation_len, List.length_drop, HOL.out]; exact Nat.le_refl _)] at this
      have one1 : ∀ u ∈ encStation s, u.oneCell' = true := by intro u hu; exact oneStation [s] u (by simpa using hu)
      have hS : ∀ w', Below w4.heap.size w4 w' → Below w4.heap.size w4 w' ∧ w'.cell? ⟨b, off + k * 8, none⟩ = some (.int .i64 s.pId) ∧ w'.cell? ⟨b, off + k * 8 + 1, none⟩ = some (.string s.pName) ∧ w'.cell? ⟨b, off + k * 8 + 2, none⟩ = some (.int .i64 s.pX) ∧ w'.cell? ⟨b, off + k * 8 + 3, none⟩ = some (.int .i64 s.pY) ∧ w'.cell? ⟨b, off + k * 8 + 4, none⟩ = some (.int .i64 s.pGain) ∧ w'.cell? ⟨b, off + k * 8 + 5, none⟩ = some (.int .i64 s.pLow) ∧ w'.cell? ⟨b, off + k * 8 + 6, none⟩ = some (.int .i64 s.pHigh) ∧ w'.cell? ⟨b, off + k * 8 + 7, none⟩ = some (.int .i64 s.pUntil) := fun w' q => ⟨q, cellOf q (cell_of_lt e0) e0, cellOf q (cell_of_lt e1) e1, cellOf q (cell_of_lt e2) e2, cellOf q (cell_of_lt e3) e3, cellOf q (cell_of_lt e4) e4, cellOf q (cell_of_lt e5) e5, cellOf q (cell_of_lt e6) e6, cellOf q (cell_of_lt e7) e7⟩
      have HS0 := Lib.hid hS
      have Q1 := Lib.hid q1
      have Q2 := Lib.hid q2
      have ONE := Lib.hid one1
      clear hS q1 q2 one1
      have hcm : ¬ m = ocap := hcapm
      have hcm4 : ¬ ocap = m := fun h => hcapm h.symm
      have hcm7 : (k : Int) ≤ (ocap : Int) := by omega
      have hcm8 : ¬ (ocap : Int) < (m : Int) := by omega
      have hcm9 : ¬ (k : Int) < (m : Int) := by omega
      have hcm2 : (m : Int) ≤ (k : Int) := hm1
      have hcm3 : m ≤ k := hm
      go_wp2
      go_region_held3 (fun w' => Below w4.heap.size w4 w' ∧ w'.cell? ⟨b, off + k * 8, none⟩ = some (.int .i64 s.pId) ∧ w'.cell? ⟨b, off + k * 8 + 1, none⟩ = some (.string s.pName) ∧ w'.cell? ⟨b, off + k * 8 + 2, none⟩ = some (.int .i64 s.pX) ∧ w'.cell? ⟨b, off + k * 8 + 3, none⟩ = some (.int .i64 s.pY) ∧ w'.cell? ⟨b, off + k * 8 + 4, none⟩ = some (.int .i64 s.pGain) ∧ w'.cell? ⟨b, off + k * 8 + 5, none⟩ = some (.int .i64 s.pLow) ∧ w'.cell? ⟨b, off + k * 8 + 6, none⟩ = some (.int .i64 s.pHigh) ∧ w'.cell? ⟨b, off + k * 8 + 7, none⟩ = some (.int .i64 s.pUntil))
        (first
          | exact HS0.out _ (Below.refl _ _).drew
          | exact HS0.out _ (by with_reducible assumption))
        (first
          | (refine step_append_srcK (((w4.alloc (.cells #[] 60)).alloc (.cells #[.int .i64 s.pId, .string s.pName, .int .i64 s.pX, .int .i64 s.pY, .int .i64 s.pGain, .int .i64 s.pLow, .int .i64 s.pHigh, .int .i64 s.pUntil] 60)).drew) (by rfl) _ _ _ (by rfl) w4.heap.size 60 ti (.agg #[.int .i64 0, .string .empty, .int .i64 0, .int .i64 0, .int .i64 0, .int .i64 0, .int .i64 0, .int .i64 0]) 8 72 Try.underlying63 hi hz0 hz1 hz2 rfl (by decide) _ (0) ([]) (by rfl) (rA1) _ (m) _ (by rfl) (Q1.out.below KA1) (by unfold maxLen; omega) (by omega) (by first | omega | (simp; done) | (simp; omega)) ?_; intro v5 w5 hr5 hg5 hat5; have B5 : Below w4.heap.size w4 w5 := Below.grown KA1 hg5 (by first | omega | (simp; done) | (simp; omega)) (by intro q hq; cases hq; simp); have r5 : w5.ownsRow w4.heap.size 60 8 v5 m ((ol.take m).flatMap encStation) := (by simpa using hr5); have z5 := B5.size; have b5 := bA1.grown (row := some w4.heap.size) hg5 (by simp); clear hr5 hg5 hat5)
          | (refine step_append_srcK (((w4.alloc (.cells #[.int .i64 s.pId, .string s.pName, .int .i64 s.pX, .int .i64 s.pY, .int .i64 s.pGain, .int .i64 s.pLow, .int .i64 s.pHigh, .int .i64 s.pUntil] 60)).alloc (.cells #[] 60)).drew) (by rfl) _ _ _ (by rfl) w4.heap.size 60 ti (.agg #[.int .i64 0, .string .empty, .int .i64 0, .int .i64 0, .int .i64 0, .int .i64 0, .int .i64 0, .int .i64 0]) 8 72 Try.underlying63 hi hz0 hz1 hz2 rfl (by decide) _ (0) ([]) (by rfl) (rB0) _ (m) _ (by rfl) (Q1.out.below KB0) (by unfold maxLen; omega) (by omega) (by first | omega | (simp; done) | (simp; omega)) ?_; intro v5 w5 hr5 hg5 hat5; have B5 : Below w4.heap.size w4 w5 := Below.grown KB0 hg5 (by first | omega | (simp; done) | (simp; omega)) (by intro q hq; cases hq; simp); have r5 : w5.ownsRow w4.heap.size 60 8 v5 m ((ol.take m).flatMap encStation) := (by simpa using hr5); have z5 := B5.size; have b5 := bB0.grown (row := some (w4.heap.size + 1)) hg5 (by simp); clear hr5 hg5 hat5)
          | (refine step_append_srcK ((w4.alloc (.cells #[] 60)).drew) (by rfl) _ _ _ (by rfl) w4.heap.size 60 ti (.agg #[.int .i64 0, .string .empty, .int .i64 0, .int .i64 0, .int .i64 0, .int .i64 0, .int .i64 0, .int .i64 0]) 8 72 Try.underlying63 hi hz0 hz1 hz2 rfl (by decide) _ (0) ([]) (by rfl) (rA) _ (m) _ (by rfl) (Q1.out.below KA) (by unfold maxLen; omega) (by omega) (by first | omega | (simp; done) | (simp; omega)) ?_; intro v5 w5 hr5 hg5 hat5; have B5 : Below w4.heap.size w4 w5 := Below.grown KA hg5 (by first | omega | (simp; done) | (simp; omega)) (by intro q hq; cases hq; simp); have r5 : w5.ownsRow w4.heap.size 60 8 v5 m ((ol.take m).flatMap encStation) := (by simpa using hr5); have z5 := B5.size; have K5 : Below w4.heap.size w4 (w5.alloc (.cells #[.int .i64 s.pId, .string s.pName, .int .i64 s.pX, .int .i64 s.pY, .int .i64 s.pGain, .int .i64 s.pLow, .int .i64 s.pHigh, .int .i64 s.pUntil] 60)) := B5.alloc B5.size _; have b5V : Bx (w5.alloc (.cells #[.int .i64 s.pId, .string s.pName, .int .i64 s.pX, .int .i64 s.pY, .int .i64 s.pGain, .int .i64 s.pLow, .int .i64 s.pHigh, .int .i64 s.pUntil] 60)) w5.heap.size (encStation s) := Bx.new w5 (encStation s) 60; clear hr5 hg5 hat5)
          | (refine step_append_srcK (w5) (by rfl) _ _ _ (by rfl) w4.heap.size 60 ti (.agg #[.int .i64 0, .string .empty, .int .i64 0, .int .i64 0, .int .i64 0, .int .i64 0, .int .i64 0, .int .i64 0]) 8 72 Try.underlying63 hi hz0 hz1 hz2 rfl (by decide) _ (m) ((ol.take m).flatMap encStation) (by rfl) (r5) _ (1) _ (by rfl) (srcK_box b5 ONE.out) (by unfold maxLen; omega) (by omega) (z5) ?_; intro v6 w6 hr6 hg6 hat6; have B6 : Below w4.heap.size w4 w6 := Below.grown B5 hg6 (by first | omega | (simp; done) | (simp; omega)) (fun q hq => (r5.lt q hq).1); have r6 : w6.ownsRow w4.heap.size 60 8 v6 (m + 1) ((ol.take m).flatMap encStation ++ encStation s) := hr6; have z6 := B6.size; clear hr6 hg6 hat6)
          | (refine step_append_srcK (w5.alloc (.cells #[.int .i64 s.pId, .string s.pName, .int .i64 s.pX, .int .i64 s.pY, .int .i64 s.pGain, .int .i64 s.pLow, .int .i64 s.pHigh, .int .i64 s.pUntil] 60)) (by rfl) _ _ _ (by rfl) w4.heap.size 60 ti (.agg #[.int .i64 0, .string .empty, .int .i64 0, .int .i64 0, .int .i64 0, .int .i64 0, .int .i64 0, .int .i64 0]) 8 72 Try.underlying63 hi hz0 hz1 hz2 rfl (by decide) _ (m) ((ol.take m).flatMap encStation) (by rfl) (r5.alloc _) _ (1) _ (by rfl) (srcK_box b5V ONE.out) (by unfold maxLen; omega) (by omega) (by first | omega | (simp; done) | (simp; omega)) ?_; intro v6 w6 hr6 hg6 hat6; have B6 : Below w4.heap.size w4 w6 := Below.grown K5 hg6 (by first | omega | (simp; done) | (simp; omega)) (fun q hq => (r5.lt q hq).1); have r6 : w6.ownsRow w4.heap.size 60 8 v6 (m + 1) ((ol.take m).flatMap encStation ++ encStation s) := hr6; have z6 := B6.size; clear hr6 hg6 hat6)
          | (refine step_append_srcK (w6) (by rfl) _ _ _ (by rfl) w4.heap.size 60 ti (.agg #[.int .i64 0, .string .empty, .int .i64 0, .int .i64 0, .int .i64 0, .int .i64 0, .int .i64 0, .int .i64 0]) 8 72 Try.underlying63 hi hz0 hz1 hz2 rfl (by decide) _ (m + 1) ((ol.take m).flatMap encStation ++ encStation s) (by rfl) (r6) _ (k - m) _ (by rfl) (Q2.out.below B6) (by unfold maxLen; omega) (by omega) (z6) ?_; intro v7 w7 hr7 hg7 hat7; have B7 : Below w4.heap.size w4 w7 := Below.grown B6 hg7 (by first | omega | (simp; done) | (simp; omega)) (fun q hq => (r6.lt q hq).1); have r7 : w7.ownsRow w4.heap.size 60 8 v7 (m + 1 + (k - m)) ((ol.take m).flatMap encStation ++ encStation s ++ (ol.drop m).flatMap encStation) := hr7; have z7 := B7.size; clear hr7 hg7 hat7))
      all_goals
        have h71 : m + 1 + (k - m) = k + 1 := by omega
        rw [h71] at r7
        obtain ⟨g7, cap7, rfl, hc7, hm7, hL7, -⟩ := row_some r7 (by omega)
        have r8 : w7.ownsRow w1.heap.size 60 8 (.slice (some ⟨g7, 0, none⟩) (k + 1) cap7) (k + 1) ((ol.take m ++ s :: ol.drop m).flatMap encStation) := by
          have := Go.Joins.ownsRow_le r7 (base' := w1.heap.size) (by omega)
          simpa [List.flatMap_append, List.flatMap_cons, List.append_assoc] using this
        have C7 : Below w1.heap.size w1 w7 := hbl.trans ((hbx.trans (B7.mono hbx.size)).mono hsz)
        clear r7 h71
        go_wp2
        go_roundw
        case rel => exact ⟨k + 1, _, g7, cap7, by omega, by go_num, rfl, HSF2, r8, hc7, hm7, C7⟩
        case measure => simp [intOf]; omega
end Go.Proofs.Ytklilfbokpljkab
