/- Numerals read by the library, and a list of them: the program's parseNumbers. -/
import Derived.Test.YtedngmnjpkhbiaaDoorPtM
import Derived.Test.YtedngmnjpkhbiaaDoorAcc
namespace Go.Proofs.YtedngmnjpkhbiaaDoor
open Go.ChangeShapes Go.WideShapes Go.ChangeAt Go.RowKit Go.ChangeMaps
set_option linter.unusedSimpArgs false
set_option linter.unusedVariables false

theorem parse_digs : ∀ (l : List UInt8) (acc k : Nat), digs l = true → acc < 10 ^ k → k + l.length ≤ 12 → Lib.parseUint10 acc l = .ok (l.foldl (fun n c => 10 * n + (c.toNat - 48)) acc) := by
  intro l
  induction l with
  | nil => intro acc k _ _ _; rfl
  | cons c r ih =>
    intro acc k hd ha hk
    have hd2 : isDig c = true ∧ digs r = true := by simpa [digs] using hd
    have hc : 48 ≤ c.toNat ∧ c.toNat ≤ 57 := of_decide_eq_true hd2.1
    have h12 : (10 : Nat) ^ k ≤ 10 ^ 12 := Nat.pow_le_pow_right (by omega) (by omega)
    have h12' : (10 : Nat) ^ 12 = 1000000000000 := by decide
    have hlen : (c :: r).length = r.length + 1 := rfl
    have e : acc * 10 + (c.toNat - 48) = 10 * acc + (c.toNat - 48) := by omega
    rw [Lib.parseUint10, if_pos hc, if_neg (by omega), if_neg (by omega), e, ih _ (k + 1) hd2.2 (by rw [Nat.pow_succ]; omega) (by omega)]
    rfl
theorem mag_dec (u : Nat) (h : u ≤ 999999) : Lib.parseMag (Lib.decDigits u) = .ok u := by
  obtain ⟨hv, hd⟩ := dec_val u
  have hl := dec_len6 h
  unfold Lib.parseMag
  rw [if_neg (by intro e; rw [e] at hl; simp at hl), parse_digs _ 0 0 hd (by decide) (by omega)]
  exact congrArg Lib.NumEnd.ok hv
theorem atoi_num (n : Int) (h : -999999 ≤ n ∧ n ≤ 999999) : Lib.atoiAll (numB n).data.toList = .ok n := by
  by_cases hn : n < 0
  · obtain ⟨u, rfl⟩ : ∃ u : Nat, n = -(u : Int) := ⟨n.natAbs, by omega⟩
    have hls : (numB (-(u : Int))).data.toList = 45 :: Lib.decDigits u := by rw [numB_neg u (by omega)]; simp [dec]
    rw [hls]
    unfold Lib.atoiAll
    have h45 : (45 : UInt8).toNat = 45 := rfl
    simp only [h45, or_true, if_true, mag_dec u (by omega)]
    rw [if_neg (by omega), if_neg (by omega)]
  · obtain ⟨u, rfl⟩ : ∃ u : Nat, n = (u : Int) := ⟨n.toNat, by omega⟩
    have hls : (numB (u : Int)).data.toList = Lib.decDigits u := by rw [numB_pos]; simp [dec]
    rw [hls]
    have hm := mag_dec u (by omega)
    obtain ⟨_, hd⟩ := dec_val u
    have hl := dec_len6 (u := u) (by omega)
    revert hm hd hl
    generalize Lib.decDigits u = l
    intro hm hd hl
    match l with
    | [] => simp at hl
    | c :: r =>
      have hd2 : isDig c = true ∧ digs r = true := by simpa [digs] using hd
      have hc : 48 ≤ c.toNat ∧ c.toNat ≤ 57 := of_decide_eq_true hd2.1
      unfold Lib.atoiAll
      have h1 : ¬ c.toNat = 43 := by omega
      have h2 : ¬ c.toNat = 45 := by omega
      simp only [h1, h2, or_self, if_false, not_false_eq_true, true_and, false_and]
      rw [hm]
      simp only []
      rw [if_neg (by omega)]

def ErrAt (w : World) (g : Nat) : Prop := ∃ t p, w.cell? ⟨g, 0, none⟩ = some (.iface t p)
theorem ErrAt.below {w w' : World} {g : Nat} (h : ErrAt w g) (hb : Below w.heap.size w w') : ErrAt w' g := by
  obtain ⟨t, p, h⟩ := h
  exact ⟨t, p, cellOf hb (cell_of_lt h) h⟩

theorem atoi_bad (s : ByteArray) (hs : s.size ≤ 1048576) (h : ∀ v, Lib.atoiAll s.data.toList ≠ .ok v) (w : World) (h0 : ErrAt w 2) (h1 : ErrAt w 3) :
    Calls Tryd.prog 48 #[.string s] w fun e w' => ∃ x t p, e = .returned (.tuple #[.int .i64 x, .iface t p]) ∧ Below w.heap.size w w' := by
  obtain ⟨t0, p0, h0⟩ := h0
  obtain ⟨t1, p1, h1⟩ := h1
  rcases hx : Lib.atoiAll s.data.toList with v | _ | _
  · exact (h v hx).elim
  · refine (Any.strconv_Atoi_syntax Tryd.laysC172 s (by omega) hx _ w h0 (Or.inr ⟨_, _, rfl⟩)).mono ?_
    rintro e w' ⟨N, rfl, -, -, hb⟩
    exact ⟨_, _, _, rfl, hb⟩
  · refine (Any.strconv_Atoi_range Tryd.laysC172 s (by omega) hx _ w h1 (Or.inr ⟨_, _, rfl⟩)).mono ?_
    rintro e w' ⟨N, rfl, -, -, hb⟩
    exact ⟨_, _, _, rfl, hb⟩
theorem atoi_good (s : ByteArray) (hs : s.size ≤ 1048576) (v : Int) (h : Lib.atoiAll s.data.toList = .ok v) (w : World) :
    Calls Tryd.prog 48 #[.string s] w fun e w' => e = .returned (.tuple #[.int .i64 v, .nilIface]) ∧ Below w.heap.size w w' := by
  refine (Tryd.strconv_Atoi_ok s (by omega) v h w).mono ?_
  rintro e w' ⟨he, hw⟩
  refine ⟨he, ?_⟩
  rcases hw with rfl | ⟨t, rfl⟩
  · exact Below.refl _ _
  · exact Lib.bytesWorld_below _ _ _

theorem iface_of {H : Type} {enc : TypeId × Value → H} {P : Program} {w : World} {base : Nat} {sp : Nat → Bool} {fuel : Nat} {t : TypeId} {ms : Array (String × TypeId)} {cs : List Value} {nm : String} {d : DataW H} {p : List MemPlace}
    (ht : P.underlying t = some (.interface ms)) (h : DataW.trod enc P w base sp false fuel t cs = some (.iface nm d, p)) : ∃ u v, cs = [.iface u v] := by
  cases fuel with
  | zero => simp [DataW.trod] at h
  | succ n =>
    unfold DataW.trod at h
    rw [ht] at h
    split at h <;> simp_all
theorem errAt_of {W : World} {l : List (String × DataW Unit)} {n nm : String} {d : DataW Unit} {g : Nat} (h : laidMetH Tryd.prog l W)
    (hl : l.filter (fun x => x.1 == n) = [(n, .iface nm d)]) (hh : laidMetH Tryd.prog [(n, .iface nm d)] W → laidMet Tryd.prog [(n, .iface nm d)] W)
    (hg : Tryd.prog.globalNamed n = some g) (hty : (Tryd.prog.globals[g]?).map (·.type) = some 73) : ErrAt W g := by
  have h2 := laidMetH.filter (fun x => x.1 == n) h
  rw [hl] at h2
  obtain ⟨ps, ⟨g0, t0, cs0, f0, p0, q0, hg0, ht0, hv0, hd0, _⟩, _⟩ := hh h2
  obtain rfl := Option.some.inj (hg.symm.trans hg0)
  obtain rfl := Option.some.inj (hty.symm.trans ht0)
  obtain ⟨u, v, hc⟩ := iface_of Tryd.underlying73 hd0
  refine ⟨u, v, ?_⟩
  rw [World.var?_cell hg0 hv0 0, ← Array.getElem?_toList, hc]
  rfl


/-- What the library reads. -/
def num1 (s : ByteArray) : Option Int := match Lib.atoiAll s.data.toList with
  | .ok v => some v
  | _ => none
theorem num1_some {s : ByteArray} {v : Int} (h : num1 s = some v) : Lib.atoiAll s.data.toList = .ok v := by
  unfold num1 at h
  split at h
  · rename_i u hu; rw [hu, Option.some.inj h]
  · cases h
theorem num1_none {s : ByteArray} (h : num1 s = none) (v : Int) : Lib.atoiAll s.data.toList ≠ .ok v := by
  intro e
  unfold num1 at h
  rw [e] at h
  cases h
theorem num1_num (n : Int) (h : -999999 ≤ n ∧ n ≤ 999999) : num1 (numB n) = some n := by
  unfold num1; rw [atoi_num n h]
/-- All of the numbers, if each one is a number. -/
def nums : List ByteArray → Option (List Int)
  | [] => some []
  | s :: r => (num1 s).bind fun v => (nums r).map (v :: ·)
theorem nums_len : ∀ {ss : List ByteArray} {xs : List Int}, nums ss = some xs → xs.length = ss.length
  | [], xs, h => by cases h; rfl
  | s :: r, xs, h => by
    unfold nums at h
    cases h1 : num1 s with
    | none => rw [h1] at h; cases h
    | some v =>
      rw [h1, Option.bind_some] at h
      cases h2 : nums r with
      | none => rw [h2] at h; cases h
      | some ys =>
        rw [h2, Option.map_some] at h
        cases h
        rw [List.length_cons, List.length_cons, nums_len h2]
theorem nums_snoc : ∀ {ss : List ByteArray} {xs : List Int} {s : ByteArray} {v : Int}, nums ss = some xs → num1 s = some v → nums (ss ++ [s]) = some (xs ++ [v])
  | [], xs, s, v, h, g => by cases h; simp [nums, g]
  | a :: r, xs, s, v, h, g => by
    unfold nums at h
    cases h1 : num1 a with
    | none => rw [h1] at h; cases h
    | some u =>
      rw [h1, Option.bind_some] at h
      cases h2 : nums r with
      | none => rw [h2] at h; cases h
      | some ys =>
        rw [h2, Option.map_some] at h
        cases h
        rw [List.cons_append, nums, h1, Option.bind_some, nums_snoc h2 g]
        rfl
theorem nums_fail : ∀ {ss : List ByteArray} {s : ByteArray} {k : Nat}, ss[k]? = some s → num1 s = none → nums ss = none
  | [], s, k, h, _ => by simp at h
  | a :: r, s, 0, h, g => by
    have : a = s := by simpa using h
    subst this
    rw [nums, g]; rfl
  | a :: r, s, k + 1, h, g => by
    rw [nums, nums_fail (ss := r) (k := k) (by simpa using h) g]
    cases num1 a <;> rfl
theorem nums_map : ∀ (l : List Int), (∀ x ∈ l, -999999 ≤ x ∧ x ≤ 999999) → nums (l.map numB) = some l
  | [], _ => rfl
  | x :: r, h => by
    rw [List.map_cons, nums, num1_num x (h x (by simp)), Option.bind_some, nums_map r (fun y hy => h y (by simp [hy]))]
    rfl

set_option maxRecDepth 100000 in
set_option maxHeartbeats 1000000 in
theorem implNums (ss : List ByteArray) (v : Value) (w : World) (B : Nat) (h : Lst Value.string w B v ss) (hB : B ≤ w.heap.size) (hn : ss.length ≤ 1048576) (hz : ∀ s ∈ ss, s.size ≤ 1048576) (e0 : ErrAt w 2) (e1 : ErrAt w 3) :
    Calls Tryd.prog 23 #[v] w fun e w' => ∃ v', e = .returned (.tuple #[v', .bool (nums ss).isSome]) ∧ Own (Value.int .i64) w' w.heap.size w'.heap.size v' ((nums ss).getD []) ∧ Below w.heap.size w w' := by
  obtain ⟨ti, hi, hz0, hz1, hz2⟩ := info_parts infoInt
  obtain ⟨ao, cap, rfl, hcap, hmax, -, hc⟩ := h
  unfold maxLen at hmax
  have HC := Lib.hid hc
  have HZ := Lib.hid hz
  have E0 := Lib.hid e0
  have E1 := Lib.hid e1
  clear hc hz e0 e1
  go_enter Tryd.func23, Tryd.ntmps23
  go_wp2
  go_loopw [4, 12] (fun o i wr => ∃ (k : Nat) (xs : List Int), k ≤ ss.length ∧ Hid (xs.length = k) ∧ i = .int .i64 k ∧ Hid (nums (ss.take k) = some xs) ∧ wr.ownsRow w.heap.size 3 1 o k (xs.map (Value.int .i64)) ∧ (∃ ao cap, o = .slice ao k cap) ∧ Below w.heap.size w wr) (fun _ i _ => ss.length - (intOf i).toNat)
  case atStart => exact ⟨0, [], Nat.zero_le _, Lib.hid rfl, rfl, Lib.hid rfl, World.ownsRow_made w #[] 0 (Nat.le_refl _) (by simp [maxLen]) rfl, ⟨_, _, rfl⟩, (Below.refl _ _).alloc (Nat.le_refl _) _⟩
  case round =>
    obtain ⟨k, xs, hk, HKL, rfl, HN, hrow, ⟨ao2, cap2, rfl⟩, hbl⟩ := hrel
    have hsz := hbl.size
    by_cases hlt : k < ss.length
    · obtain ⟨s, hs⟩ := get_of_lt hlt
      obtain ⟨b, off, rfl, hb, hcx⟩ := HC.out k s hs
      have hcx' := cellOf hbl (by omega) hcx
      have hsz1 := HZ.out s (List.mem_of_getElem? hs)
      have F0 := E0.out.below hbl
      have F1 := E1.out.below hbl
      cases hv : num1 s with
      | none =>
        have HF := Lib.hid (nums_fail hs hv)
        have HX := Lib.hid (num1_none hv)
        clear hs hcx hv
        go_wp2_with fail
        refine (atoi_bad s hsz1 HX.out _ F0 F1).mono ?_
        rintro e w5 ⟨x, t, p, rfl, hb5⟩
        have hb6 := hbl.trans (hb5.mono hsz)
        go_wp2
        go_ret2
        rw [HF.out]
        exact ⟨_, rfl, own_empty w5 3 hb6.size, hb6.alloc hb6.size _⟩
      | some u =>
        have HT := Lib.hid (take_snoc hs)
        have HV := Lib.hid (num1_some hv)
        have HS := Lib.hid (nums_snoc HN.out hv)
        clear hs hcx hv
        go_wp2_with fail
        refine (atoi_good s hsz1 u HV.out _).mono ?_
        rintro e w5 ⟨rfl, hb5⟩
        have hb6 := hbl.trans (hb5.mono hsz)
        have hz6 := hb6.size
        have hrow5 := row_below hrow hb5
        have hkn : k ≤ 1048576 := by omega
        have HML : Hid ((xs.map (Value.int .i64)).length = k) := Lib.hid (by rw [List.length_map, HKL.out])
        have HMM : Hid (xs.map (Value.int .i64) ++ [Value.int .i64 u] = (xs ++ [u]).map (Value.int .i64)) := Lib.hid (by simp)
        generalize xs.map (Value.int .i64) = il at *
        clear hrow hbl hb5 F0 F1
        go_wp2_with (at_builtin; refine wpList_append_own _ rfl _ _ 24 rfl w.heap.size 3 ti (.int .i64 0) 1 8 Tryd.underlying24 hi hz0 hz1 hz2 rfl (by decide) _ k il rfl (hrow5.alloc _) ⟨w5.heap.size, 0, none⟩ 1 1 [.int .i64 u] rfl rfl (cell_one_new _ _ _) (by simp [Value.oneCell']) (by unfold maxLen; omega) (by omega) (by first | omega | (simp; done) | (simp; omega)) ?_; intro v' w7 hown' hgrow _)
        have b7 := below_append hb6 hrow5 hgrow hz6
        have hrow7 : w7.ownsRow w.heap.size 3 1 v' (k + 1) ((xs ++ [u]).map (Value.int .i64)) := by rw [← HMM.out]; exact hown'
        obtain ⟨a3, c3, rfl⟩ := row_form hrow7
        clear hown' hgrow hrow5
        go_roundw
        case rel => exact ⟨k + 1, xs ++ [u], by omega, Lib.hid (by rw [List.length_append, HKL.out]; rfl), by go_num, by rw [HT.out]; exact HS, hrow7, ⟨_, _, rfl⟩, b7⟩
        case measure => simp [intOf]; omega
    · have HA := Lib.hid (take_all hlt)
      have HE : Hid (nums ss = some xs) := Lib.hid (by have := HN.out; rwa [HA.out] at this)
      go_wp2
      go_ret2
      rw [HE.out]
      refine ⟨_, rfl, ?_, hbl⟩
      have hk2 := HKL.out
      subst hk2
      exact Own.of_row hrow
end Go.Proofs.YtedngmnjpkhbiaaDoor
