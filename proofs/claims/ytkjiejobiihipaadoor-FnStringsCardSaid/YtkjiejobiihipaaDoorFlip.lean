/- A sealed text of which one byte is changed is not sealed. -/
import Derived.Test.YtkjiejobiihipaaDoorVer
import Derived.Test.YtkjiejobiihipaaDoorPint
namespace Go.Proofs.YtkjiejobiihipaaDoor
open Go.ChangeShapes Go.WideShapes Go.ChangeAt Go.RowKit Go.ChangeMaps

theorem fold_inj (l : List UInt8) : ∀ h h' : Int, 0 ≤ h → h < 999979 → 0 ≤ h' → h' < 999979 →
    l.foldl (fun (h : Int) (c : UInt8) => (41 * h + (c.toNat : Int) + 1) % 999979) h = l.foldl (fun (h : Int) (c : UInt8) => (41 * h + (c.toNat : Int) + 1) % 999979) h' → h = h' := by
  induction l with
  | nil => intro h h' _ _ _ _ e; exact e
  | cons c l ih =>
    intro h h' a1 a2 b1 b2 e
    rw [List.foldl_cons, List.foldl_cons] at e
    have := ih _ _ (Int.emod_nonneg _ (by omega)) (Int.emod_lt_of_pos _ (by omega)) (Int.emod_nonneg _ (by omega)) (Int.emod_lt_of_pos _ (by omega)) e
    omega
theorem csum_flip (a b : List UInt8) (c d : UInt8) (h : csum (a ++ c :: b) = csum (a ++ d :: b)) : c = d := by
  unfold csum at h
  rw [List.foldl_append, List.foldl_append, List.foldl_cons, List.foldl_cons] at h
  have := fold_inj b _ _ (Int.emod_nonneg _ (by omega)) (Int.emod_lt_of_pos _ (by omega)) (Int.emod_nonneg _ (by omega)) (Int.emod_lt_of_pos _ (by omega)) h
  have hc := c.toNat_lt
  have hd := d.toNat_lt
  exact UInt8.toNat_inj.1 (by omega)
theorem num_inj {m n : Int} (hm : 0 ≤ m ∧ m ≤ 999978) (hn : 0 ≤ n ∧ n ≤ 999978) (h : (numB m).data.toList = (numB n).data.toList) : m = n := by
  have e1 := atoi_num m (by omega)
  have e2 := atoi_num n (by omega)
  rw [h, e2] at e1
  injection e1 with e1
  exact e1.symm
theorem num_clean (n : Int) (h : 0 ≤ n) : (35 : UInt8) ∉ (numB n).data.toList := by
  obtain ⟨u, rfl⟩ : ∃ u : Nat, n = (u : Int) := ⟨n.toNat, by omega⟩
  rw [numB_pos]
  have hd := (dec_val u).2
  intro hm
  have hm2 : (35 : UInt8) ∈ Lib.decDigits u := by simpa [dec] using hm
  have := List.all_eq_true.1 hd _ hm2
  revert this
  decide
theorem at_hash {X D : List UInt8} (hX : (35 : UInt8) ∉ X) (hD : (35 : UInt8) ∉ D) {i : Nat} (h : (X ++ 35 :: D)[i]? = some 35) : i = X.length := by
  rcases Nat.lt_trichotomy i X.length with g | g | g
  · rw [List.getElem?_append_left g] at h
    exact (hX (List.mem_of_getElem? h)).elim
  · exact g
  · rw [List.getElem?_append_right (by omega), show i - X.length = (i - X.length - 1) + 1 by omega, List.getElem?_cons_succ] at h
    exact (hD (List.mem_of_getElem? h)).elim
theorem hash_at (X D : List UInt8) : (X ++ 35 :: D)[X.length]? = some (35 : UInt8) := by simp
theorem flip_len {X D X' D' : List UInt8} {k : Nat} {c : UInt8} (hX : (35 : UInt8) ∉ X) (hX' : (35 : UInt8) ∉ X') (hD : (35 : UInt8) ∉ D) (hD' : (35 : UInt8) ∉ D')
    (h : X' ++ 35 :: D' = (X ++ 35 :: D).set k c) : X'.length = X.length := by
  by_cases h1 : k = X.length
  · by_cases h2 : k = X'.length
    · omega
    · have e : (X' ++ 35 :: D')[X'.length]? = (X ++ 35 :: D)[X'.length]? := by rw [h, List.getElem?_set_ne h2]
      rw [hash_at] at e
      exact at_hash hX hD e.symm
  · have e : (X' ++ 35 :: D')[X.length]? = (X ++ 35 :: D)[X.length]? := by rw [h, List.getElem?_set_ne h1]
    rw [hash_at] at e
    exact (at_hash hX' hD' e).symm
theorem seal_list (x : ByteArray) : (seal_ x).data.toList = x.data.toList ++ 35 :: (numB (csum x.data.toList)).data.toList := by
  unfold seal_; simp
theorem has_not {s : ByteArray} {c : UInt8} (h : has s c = false) : c ∉ s.data.toList := by
  intro hm; rw [has_yes hm] at h; cases h
theorem flip_seal (x x' : ByteArray) (hx : has x 35 = false) (hx' : has x' 35 = false) (k : Nat) (c : UInt8) (hk : k < (seal_ x).data.toList.length) (hc : (seal_ x).data.toList[k]? ≠ some c)
    (h : (seal_ x').data.toList = (seal_ x).data.toList.set k c) : False := by
  have hb := csum_bd x.data.toList
  have hb' := csum_bd x'.data.toList
  rw [seal_list] at hk hc h
  rw [seal_list] at h
  revert hk hc h
  have hX := has_not hx
  have hX' := has_not hx'
  have hD := num_clean (csum x.data.toList) hb.1
  have hD' := num_clean (csum x'.data.toList) hb'.1
  have hinj := fun h : (numB (csum x'.data.toList)).data.toList = (numB (csum x.data.toList)).data.toList => num_inj ⟨hb'.1, by omega⟩ ⟨hb.1, by omega⟩ h
  have hsame := fun h : x'.data.toList = x.data.toList => show (numB (csum x'.data.toList)).data.toList = (numB (csum x.data.toList)).data.toList by rw [h]
  revert hX hX' hD hD' hinj hsame
  generalize (numB (csum x.data.toList)).data.toList = D
  generalize (numB (csum x'.data.toList)).data.toList = D'
  generalize x.data.toList = X
  generalize x'.data.toList = X'
  intro hX hX' hD hD' hinj hsame hk hc h
  have hl := flip_len hX hX' hD hD' h
  have hget : (X' ++ 35 :: D')[k]? = some c := by rw [h, List.getElem?_set_self hk]
  by_cases h1 : k < X.length
  · rw [List.set_append_left _ _ h1] at h
    obtain ⟨e1, e2⟩ := List.append_inj h (by simp [hl])
    have e3 := hinj (List.cons.inj e2).2
    have hs : X.set k c = X.take k ++ c :: X.drop (k + 1) := List.set_eq_take_append_cons_drop ▸ by rw [if_pos h1]
    have hx2 : X = X.take k ++ X[k] :: X.drop (k + 1) := by rw [List.getElem_cons_drop, List.take_append_drop]
    rw [e1, hs] at e3
    have e4 : csum (X.take k ++ c :: X.drop (k + 1)) = csum (X.take k ++ X[k] :: X.drop (k + 1)) := by rw [← hx2]; exact e3
    have e5 := csum_flip _ _ _ _ e4
    apply hc
    rw [List.getElem?_append_left h1, e5, List.getElem?_eq_getElem h1]
  · rw [List.set_append_right _ _ (by omega)] at h
    obtain ⟨e1, e2⟩ := List.append_inj h hl
    have e3 := hsame e1
    rw [e1, e3] at hget
    exact hc hget
theorem flip_bad (x y : ByteArray) (hx : has x 35 = false) (k : Nat) (c : UInt8) (hk : k < (seal_ x).size) (hc : (seal_ x).data.toList[k]? ≠ some c)
    (h : y.data.toList = (seal_ x).data.toList.set k c) : okV y = false := by
  cases hv : okV y with
  | false => rfl
  | true =>
    unfold okV at hv
    rw [Bool.and_eq_true, decide_eq_true_eq, decide_eq_true_eq] at hv
    exact (flip_seal x (first y) hx (first_clean y) k c (by rw [Array.length_toList]; exact hk) hc (by rw [hv.2]; exact h)).elim
/-- The first part of a sealed text. -/
theorem first_seal (x : ByteArray) (hx : has x 35 = false) : first (seal_ x) = x := by
  apply bytes_ext
  have hX := has_not hx
  have hb := csum_bd x.data.toList
  have hD := num_clean (csum x.data.toList) hb.1
  unfold first
  rw [ByteArray.data_extract, Array.toList_extract]
  have hcut : cutAt (seal_ x) = x.data.toList.length := by
    unfold cutAt
    rw [seal_list]
    rcases indexByte_spec 35 (x.data.toList ++ 35 :: (numB (csum x.data.toList)).data.toList) with ⟨h1, h2⟩ | ⟨i, h1, h2, h3⟩
    · exact (h2 (by simp)).elim
    · rw [h1, if_pos (by omega), Int.toNat_natCast]
      exact at_hash hX hD h2
  rw [hcut, seal_list]
  simp [List.extract]
end Go.Proofs.YtkjiejobiihipaaDoor
