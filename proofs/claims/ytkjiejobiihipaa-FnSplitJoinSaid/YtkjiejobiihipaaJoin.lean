/- FnExactJoinStrings: for every slice of strings and every string the law answers true; no condition. -/
import Derived.Test.YtkjiejobiihipaaStr
import Derived.Test.YtkjiejobiihipaaShelf
namespace Go.Proofs.Ytkjiejobiihipaa.fnExactJoinStrings
open Go.ChangeShapes Go.WideShapes Go.ChangeAt Go.RowKit Go.ChangeMaps

theorem own : ownKnob Try.prog.godebug = none := by kernel_rfl

theorem byteAt (s : ByteArray) (k : Nat) (h : k < s.size) : s.data.toList[k]? = some s[k] := by
  rw [List.getElem?_eq_getElem (by simpa using h)]; rfl
theorem u8_inj {a b : UInt8} (h : (a.toNat : Int) = b.toNat) : a = b := UInt8.toNat_inj.1 (by omega)

/-- Does a text hold a byte? -/
def has (s : ByteArray) (c : UInt8) : Bool := decide (c ∈ s.data.toList)
theorem has_yes {s : ByteArray} {c : UInt8} (h : c ∈ s.data.toList) : has s c = true := by simp [has] at *; exact h
theorem has_no {s : ByteArray} {c : UInt8} (h : c ∉ s.data.toList) : has s c = false := by simp [has] at *; exact h

theorem l1Stands (s : ByteArray) (c : UInt8) (w : World) (hs : s.size ≤ maxLen) :
    Calls Try.prog 32 #[.string s, .int .u8 c.toNat] w fun e w' => e = .returned (.bool (has s c)) ∧ w = w' := by
  unfold maxLen at hs
  go_enter Try.func32, Try.ntmps32
  go_wp2
  go_loop [5] (fun i => ∃ k : Nat, k ≤ s.size ∧ i = .int .i64 k ∧ c ∉ s.data.toList.take k) (fun i => s.size - (intOf i).toNat)
  case atStart => exact ⟨0, Nat.zero_le _, rfl, by simp⟩
  case round =>
    obtain ⟨k, hk, rfl, hn⟩ := hrel
    have HN := Lib.hid hn
    clear hn
    by_cases hlt : k < s.size
    · have hb := byteAt s k hlt
      have HB := Lib.hid hb
      clear hb
      by_cases he : (s[k].toNat : Int) = c.toNat
      · have he1 : ((s[k].toNat : Int) == c.toNat) = true := by simpa using he
        have HE := Lib.hid (u8_inj he)
        clear he
        go_wp2
        go_ret
        refine ⟨ret_bool ?_, rfl⟩
        rw [has_yes]
        rw [← HE.out]
        exact List.mem_of_getElem? HB.out
      · have he1 : ((s[k].toNat : Int) == c.toNat) = false := by simpa using he
        have HE := Lib.hid (show s[k] ≠ c from fun e => he (by rw [e]))
        clear he
        go_wp2
        go_round
        case rel =>
          refine ⟨k + 1, by omega, by go_num, ?_⟩
          rw [take_snoc HB.out]
          intro h
          rcases List.mem_append.1 h with h | h
          · exact HN.out h
          · exact HE.out (List.mem_singleton.1 h).symm
        case measure => simp [intOf]; omega
    · go_wp2
      go_ret
      refine ⟨ret_bool ?_, rfl⟩
      rw [has_no]
      have := HN.out
      rwa [take_all (l := s.data.toList) (k := k) (by simpa using hlt)] at this

theorem standsYes (s : ByteArray) (c : UInt8) (w : World) (hs : s.size ≤ maxLen) (h : Hid (has s c = true)) :
    Calls Try.prog 32 #[.string s, .int .u8 c.toNat] w fun e w' => e = .returned (.bool true) ∧ w' = w :=
  (l1Stands s c w hs).mono fun e w' ⟨he, hw⟩ => ⟨by rw [he, h.out], hw.symm⟩
theorem standsNo (s : ByteArray) (c : UInt8) (w : World) (hs : s.size ≤ maxLen) (h : Hid (has s c = false)) :
    Calls Try.prog 32 #[.string s, .int .u8 c.toNat] w fun e w' => e = .returned (.bool false) ∧ w' = w :=
  (l1Stands s c w hs).mono fun e w' ⟨he, hw⟩ => ⟨by rw [he, h.out], hw.symm⟩

/-- What canJoin asks. -/
def fits (ss : List ByteArray) (c : UInt8) : Bool := decide ((ss.length : Int) - 1 + sizes ss ≤ 4000) && ss.all (fun s => !has s c)
theorem fits_long {ss : List ByteArray} {c : UInt8} (h : 4000 < (ss.length : Int) - 1 + sizes ss) : fits ss c = false := by
  unfold fits; rw [decide_eq_false (by omega)]; rfl
theorem fits_has {ss : List ByteArray} {c : UInt8} {k : Nat} {s : ByteArray} (h : ss[k]? = some s) (hh : has s c = true) : fits ss c = false := by
  unfold fits
  rw [Bool.and_eq_false_iff]
  right
  rw [List.all_eq_false]
  exact ⟨s, List.mem_of_getElem? h, by simp [hh]⟩
theorem fits_yes {ss : List ByteArray} {c : UInt8} (h : (ss.length : Int) - 1 + sizes ss ≤ 4000) (hh : ∀ s ∈ ss, has s c = false) : fits ss c = true := by
  unfold fits
  rw [decide_eq_true h, Bool.true_and, List.all_eq_true]
  intro s hs
  rw [hh s hs]; rfl

set_option maxHeartbeats 1000000 in
theorem canJoin (ss : List ByteArray) (v : Value) (c : UInt8) (w : World) (B : Nat) (h : Lst Value.string w B v ss) (hne : 0 < ss.length) (ht : (ss.length : Int) + sizes ss ≤ 1048576) :
    Calls Try.prog 30 #[v, .int .u8 c.toNat] w fun e w' => e = .returned (.bool (fits ss c)) ∧ w = w' := by
  obtain ⟨ao, cap, rfl, hcap, hmax, hc⟩ := h
  have hss := sizes_nonneg ss
  go_enter Try.func30, Try.ntmps30
  go_wp2
  go_step3
  go_wp2
  go_step3
  go_wp2
  go_loop [5, 6, 8, 15] (fun l f _ i => ∃ k : Nat, k ≤ ss.length ∧ i = .int .i64 k ∧ f = .bool true ∧ l = .int .i64 ((ss.length : Int) - 1 + sizes (ss.take k)) ∧ (0 < k → (ss.length : Int) - 1 + sizes (ss.take k) ≤ 4000) ∧ (∀ s ∈ ss.take k, has s c = false)) (fun _ _ _ i => ss.length - (intOf i).toNat)
  case atStart => exact ⟨0, Nat.zero_le _, rfl, rfl, by simp [sizes], by simp, by simp⟩
  case round =>
    obtain ⟨k, hk, rfl, rfl, rfl, hle, hno⟩ := hrel
    have hq := sizes_nonneg (ss.take k)
    have hq2 := sizes_take ss k
    have HL := Lib.hid hle
    have HN := Lib.hid hno
    clear hle hno
    by_cases hlt : k < ss.length
    · obtain ⟨s, hs⟩ := get_of_lt hlt
      obtain ⟨b, off, rfl, hb, hcell⟩ := hc k s hs
      have hq3 := sizes_take ss (k + 1)
      have hsu := sizes_succ ss k hs
      have hs0 : 0 ≤ (s.size : Int) := by omega
      have hs1 : (s.size : Int) ≤ 1048576 := by omega
      have HS := Lib.hid hsu
      have HG := Lib.hid hs
      by_cases hbig : 4000 < (ss.length : Int) - 1 + sizes (ss.take k) + (s.size : Int)
      · have HB := Lib.hid (fits_long (ss := ss) (c := c) (by omega))
        clear hsu hs hc
        go_wp2
        go_ret
        exact ⟨ret_bool HB.out.symm, rfl⟩
      · clear hsu hs hc
        go_wp2
        go_loop [6, 9, 27] (fun f _ i => ∃ j : Nat, j ≤ s.size ∧ i = .int .i64 j ∧ f = .bool true ∧ c ∉ s.data.toList.take j) (fun _ _ i => s.size - (intOf i).toNat)
        case atStart => exact ⟨0, Nat.zero_le _, rfl, rfl, by simp⟩
        case round =>
          obtain ⟨j, hj, rfl, rfl, hn⟩ := hrel
          have HJ := Lib.hid hn
          clear hn
          by_cases hjt : j < s.size
          · have hb := byteAt s j hjt
            have HB := Lib.hid hb
            clear hb
            by_cases he : (s[j].toNat : Int) = c.toNat
            · have he1 : ((s[j].toNat : Int) == c.toNat) = true := by simpa using he
              have HE := Lib.hid (u8_inj he)
              clear he
              go_wp2
              go_ret
              refine ⟨ret_bool (fits_has HG.out (has_yes ?_)).symm, rfl⟩
              rw [← HE.out]
              exact List.mem_of_getElem? HB.out
            · have he1 : ((s[j].toNat : Int) == c.toNat) = false := by simpa using he
              have HE := Lib.hid (show s[j] ≠ c from fun e => he (by rw [e]))
              clear he
              go_wp2
              go_round
              case rel =>
                refine ⟨j + 1, by omega, by go_num, rfl, ?_⟩
                rw [take_snoc HB.out]
                intro h
                rcases List.mem_append.1 h with h | h
                · exact HJ.out h
                · exact HE.out (List.mem_singleton.1 h).symm
              case measure => simp [intOf]; omega
          · have HH : Hid (has s c = false) := by
              have := HJ.out
              rw [take_all (l := s.data.toList) (k := j) (by simpa using hjt)] at this
              exact has_no this
            go_wp2
            go_round
            case rel =>
              refine ⟨k + 1, by omega, by go_num, rfl, by rw [HS.out]; go_num, ?_, ?_⟩
              · intro _; rw [HS.out]; omega
              · intro t ht
                rw [take_snoc HG.out] at ht
                rcases List.mem_append.1 ht with h | h
                · exact HN.out t h
                · rw [List.mem_singleton.1 h]; exact HH.out
            case measure => simp [intOf]; omega
    · have HF : Hid (fits ss c = true) := by
        have h1 := HL.out (by omega)
        have h2 := HN.out
        rw [take_all hlt] at h1 h2
        exact fits_yes h1 h2
      clear hc
      go_wp2
      go_ret
      exact ⟨ret_bool HF.out.symm, rfl⟩

def joinB (ss : List ByteArray) (sep : ByteArray) : ByteArray := ⟨(Lib.join (ss.map (·.data.toList)) sep.data.toList).toArray⟩
theorem join_snoc (xs : List (List UInt8)) (y sep : List UInt8) (h : xs ≠ []) : Lib.join (xs ++ [y]) sep = Lib.join xs sep ++ sep ++ y := by
  cases xs with
  | nil => exact absurd rfl h
  | cons x r => rw [List.cons_append, Lib.join_cons, Lib.join_cons]; simp [Lib.joinTail]
theorem joinB_list (ss : List ByteArray) (sep : ByteArray) : (joinB ss sep).data.toList = Lib.join (ss.map (·.data.toList)) sep.data.toList := by simp [joinB]
theorem joinB_one (s sep : ByteArray) : joinB [s] sep = s := by
  apply bytes_ext; rw [joinB_list]; simp [Lib.join_one]
theorem joinB_snoc (ss : List ByteArray) (s sep : ByteArray) (h : ss ≠ []) : joinB (ss ++ [s]) sep = joinB ss sep ++ sep ++ s := by
  apply bytes_ext
  rw [joinB_list, List.map_append, List.map_singleton, join_snoc _ _ _ (by simpa using h)]
  simp [joinB]
theorem joinB_size (sep : ByteArray) (h1 : sep.size = 1) (ss : List ByteArray) (h : 0 < ss.length) : ((joinB ss sep).size : Int) = (ss.length : Int) - 1 + sizes ss := by
  have e : (joinB ss sep).size = (Lib.join (ss.map (·.data.toList)) sep.data.toList).length := by simp [joinB, ByteArray.size]
  have hl : ∀ l : List ByteArray, ((Lib.lens (l.map (·.data.toList)) : Nat) : Int) = sizes l := by
    intro l
    induction l with
    | nil => rfl
    | cons x r ih => simp [Lib.lens, sizes] at *; rw [← ih]
  cases ss with
  | nil => simp at h
  | cons x r =>
    have h2 := hl (x :: r)
    have h3 : sep.data.toList.length = 1 := by rw [Array.length_toList]; exact h1
    rw [e, List.map_cons, Lib.join_length, h3, ← h2]
    simp only [List.map_cons, List.length_map, List.length_cons]
    omega
def okJ (ss : List ByteArray) (sep : ByteArray) : Bool := decide (0 < ss.length) && decide (sep.size = 1) && fits ss (sep.data.toList.headD 0)
def resJ (ss : List ByteArray) (sep : ByteArray) : ByteArray := if okJ ss sep then joinB ss sep else .empty
theorem ok_nil {ss : List ByteArray} {sep : ByteArray} (h : ¬ 0 < ss.length) : okJ ss sep = false := by
  unfold okJ; rw [decide_eq_false h]; rfl
theorem ok_sep {ss : List ByteArray} {sep : ByteArray} (h : ¬ sep.size = 1) : okJ ss sep = false := by
  unfold okJ; rw [decide_eq_false h]; simp
theorem ok_fits {ss : List ByteArray} {sep : ByteArray} (h : 0 < ss.length) (h1 : sep.size = 1) (c : UInt8) (hc : sep.data.toList = [c]) : okJ ss sep = fits ss c := by
  unfold okJ; rw [decide_eq_true h, decide_eq_true h1, hc]; rfl
theorem sep_one {sep : ByteArray} (h1 : sep.size = 1) : ∃ c : UInt8, sep.data.toList = [c] ∧ ∀ h : 0 < sep.size, sep[0] = c := by
  obtain ⟨⟨l⟩⟩ := sep
  match l, h1 with
  | [c], _ => exact ⟨c, rfl, fun _ => rfl⟩
theorem ret2 {a b : ByteArray} {x y : Bool} (h : a = b) (h2 : x = y) : Ending.returned (.tuple #[.string a, .bool x]) = .returned (.tuple #[.string b, .bool y]) := by rw [h, h2]

set_option maxHeartbeats 400000 in
theorem implJoin (ss : List ByteArray) (v : Value) (sep : ByteArray) (w : World) (B : Nat) (h : Lst Value.string w B v ss) (hB : B ≤ w.heap.size) (ht : (ss.length : Int) + sizes ss ≤ 1048576) (hs : sep.size ≤ 1048576) :
    Calls Try.prog 12 #[v, .string sep] w fun e w' => e = .returned (.tuple #[.string (resJ ss sep), .bool (okJ ss sep)]) ∧ Below w.heap.size w w' := by
  have hlst := h
  obtain ⟨ao, cap, rfl, hcap, hmax, hc⟩ := h
  by_cases hne : 0 < ss.length
  · have h0 : ((ss.length : Int) == 0) = false := by simp; intro h; simp [h] at hne
    by_cases h1 : sep.size = 1
    · obtain ⟨c, hcl, hc0⟩ := sep_one h1
      have hok := ok_fits hne h1 c hcl
      have H1 := Lib.hid h1
      have hsz0 : (0 : Int) < (sep.size : Int) := by omega
      have hsz1 : ((sep.size : Int) != 1) = false := by simp [h1]
      clear h1
      obtain ⟨s, hs0⟩ := get_of_lt hne
      obtain ⟨b, off, rfl, hb, _⟩ := hc 0 s hs0
      have hjs := joinB_size sep H1.out ss hne
      have HJ := Lib.hid hjs
      clear hjs hs0
      cases hf : fits ss c with
      | true =>
        have HO := Lib.hid (hok.trans hf)
        have HF := Lib.hid hf
        clear hok hf
        have hlen : (Lib.join (ss.map (·.data.toList)) sep.data.toList).length ≤ 140737488355328 := by
          have h2 := HJ.out
          have e : (joinB ss sep).size = (Lib.join (ss.map (·.data.toList)) sep.data.toList).length := by simp [joinB, ByteArray.size]
          omega
        have HC := Lib.hid hc
        clear hc
        go_enter Try.func12, Try.ntmps12
        go_wp2_with (go_at_call 30; refine (canJoin ss _ c w B hlst hne ht).mono ?_; rintro e w' ⟨rfl, rfl⟩; rw [HF.out])
        refine (Try.strings_Join b off cap ss sep w (fun j x hx => ?_) ?_ ?_ hcap hlen).mono ?_
        · obtain ⟨b', off', e1, _, e3⟩ := HC.out j x hx
          simp only [Option.some.injEq, Addr.mk.injEq, and_true] at e1
          obtain ⟨rfl, rfl⟩ := e1
          exact e3
        · omega
        · have := sizes_nonneg ss; omega
        · rintro e w' ⟨rfl, hb2⟩
          go_wp2
          go_ret2
          exact ⟨ret2 (by unfold resJ joinB; rw [HO.out, hcl]; rfl) HO.out.symm, hb2⟩
      | false =>
        have HO := Lib.hid (hok.trans hf)
        have HF := Lib.hid hf
        clear hok hf hc
        go_enter Try.func12, Try.ntmps12
        go_wp2_with (go_at_call 30; refine (canJoin ss _ c w B hlst hne ht).mono ?_; rintro e w' ⟨rfl, rfl⟩; rw [HF.out])
        go_ret2
        exact ⟨ret2 (by unfold resJ; rw [HO.out]; rfl) HO.out.symm, Below.refl _ _⟩
    · have HO := Lib.hid (ok_sep (ss := ss) h1)
      have h2 : ((sep.size : Int) != 1) = true := by simp; omega
      clear hc h1
      go_enter Try.func12, Try.ntmps12
      go_wp2
      go_ret2
      exact ⟨ret2 (by unfold resJ; rw [HO.out]; rfl) HO.out.symm, Below.refl _ _⟩
  · have HO := Lib.hid (ok_nil (sep := sep) hne)
    have h2 : ((ss.length : Int) == 0) = true := by simp; exact List.length_eq_zero_iff.1 (by omega)
    clear hc
    go_enter Try.func12, Try.ntmps12
    go_wp2
    go_ret2
    exact ⟨ret2 (by unfold resJ; rw [HO.out]; rfl) HO.out.symm, Below.refl _ _⟩

/-- What spec.JoinStrings has after k elements. -/
theorem long_take {ss : List ByteArray} {k : Nat} {c : UInt8} (hk : k ≤ ss.length) (h : 4000 < (k : Int) - 1 + sizes (ss.take k)) : fits ss c = false := by
  apply fits_long
  have := sizes_take ss k
  omega
theorem resJ_no {ss : List ByteArray} {sep : ByteArray} (h : okJ ss sep = false) : ByteArray.empty = resJ ss sep := by unfold resJ; rw [h]; rfl
theorem resJ_yes {ss : List ByteArray} {sep : ByteArray} (h : okJ ss sep = true) : joinB ss sep = resJ ss sep := by unfold resJ; rw [h]; rfl
theorem joinB_step {ss : List ByteArray} {k : Nat} {s sep : ByteArray} (hs : ss[k]? = some s) :
    joinB (ss.take (k + 1)) sep = if 0 < k then joinB (ss.take k) sep ++ sep ++ s else s := by
  rw [take_snoc hs]
  by_cases hk : 0 < k
  · rw [if_pos hk, joinB_snoc]
    intro e
    have h1 := congrArg List.length e
    have hlt := (List.getElem?_eq_some_iff.1 hs).1
    rw [List.length_take, List.length_nil] at h1
    omega
  · obtain rfl : k = 0 := by omega
    rw [if_neg hk, List.take_zero, List.nil_append, joinB_one]

set_option maxHeartbeats 1000000 in
theorem specJoin (ss : List ByteArray) (v : Value) (sep : ByteArray) (w : World) (B : Nat) (h : Lst Value.string w B v ss) (hB : B ≤ w.heap.size) (ht : (ss.length : Int) + sizes ss ≤ 1048576) (hs : sep.size ≤ 1048576) :
    Calls Try.prog 13 #[v, .string sep] w fun e w' => e = .returned (.tuple #[.string (resJ ss sep), .bool (okJ ss sep)]) ∧ Below w.heap.size w w' := by
  obtain ⟨ao, cap, rfl, hcap, hmax, hc⟩ := h
  by_cases h1 : sep.size = 1
  · have hsz1 : ((sep.size : Int) != 1) = false := by simp [h1]
    by_cases hne : 0 < ss.length
    · have h0 : ((ss.length : Int) == 0) = false := by simp; intro h; simp [h] at hne
      obtain ⟨c, hcl, hc0⟩ := sep_one h1
      have hok := ok_fits hne h1 c hcl
      have H1 := Lib.hid h1
      have HL := Lib.hid hcl
      have hsz0 : (0 : Int) < (sep.size : Int) := by omega
      have hsz2 : (sep.size : Int) ≤ 1 := by omega
      have hsz3 : 0 < sep.size := by omega
      have HK := Lib.hid hok
      clear h1 hok hcl
      go_enter Try.func13, Try.ntmps13
      go_wp2
      go_loopw [6, 7] (fun o i wr => ∃ k : Nat, k ≤ ss.length ∧ i = .int .i64 k ∧ o = .string (joinB (ss.take k) sep) ∧ ((joinB (ss.take k) sep).size : Int) ≤ 4000 ∧ (∀ s ∈ ss.take k, has s c = false) ∧ Below w.heap.size w wr)
        (fun _ i _ => ss.length - (intOf i).toNat)
      case atStart => exact ⟨0, Nat.zero_le _, rfl, rfl, by simp [joinB, Lib.join_nil, ByteArray.size], by simp, Below.refl _ _⟩
      case round =>
        obtain ⟨k, hk, rfl, rfl, hle, hno, hbl⟩ := hrel
        have HN := Lib.hid hno
        clear hno
        by_cases hlt : k < ss.length
        · obtain ⟨s, hs0⟩ := get_of_lt hlt
          obtain ⟨b, off, rfl, hb, hcell⟩ := hc k s hs0
          have hcell' := cellOf hbl (by omega) hcell
          have hst := joinB_step (sep := sep) hs0
          have hq := sizes_nonneg (ss.take k)
          have hk9 : (k : Int) ≤ 1048576 := by have := sizes_nonneg ss; omega
          have hq3 := sizes_take ss (k + 1)
          have hsu := sizes_succ ss k hs0
          have hsz : (s.size : Int) ≤ 1048576 := by omega
          have hszm : s.size ≤ maxLen := by unfold maxLen; omega
          have hi0 : (0 : Int) ≤ (k : Int) := by omega
          have hi1 : (k : Int) < (ss.length : Int) := by omega
          have HS := Lib.hid hs0
          have HU := Lib.hid hsu
          have HT := Lib.hid hst
          clear hs0 hsu hst hcell hc
          cases hh : has s c with
          | true =>
            have HF := Lib.hid (HK.out.trans (fits_has HS.out hh))
            have HH := Lib.hid hh
            clear hh
            go_wp2
            go_quiet ((go_at_call 32; exact Calls.quiet_of_same (standsYes s c _ hszm HH)))
            go_wp2
            go_ret2
            exact ⟨ret2 (resJ_no HF.out) HF.out.symm, drewN_b hbl _⟩
          | false =>
            have HH := Lib.hid hh
            clear hh
            by_cases hk0 : 0 < k
            · have HT2 := Lib.hid (show joinB (ss.take (k + 1)) sep = joinB (ss.take k) sep ++ sep ++ s by rw [HT.out, if_pos hk0])
              have hz : ((joinB (ss.take (k + 1)) sep).size : Int) = (joinB (ss.take k) sep).size + sep.size + s.size := by
                rw [HT2.out, ByteArray.size_append, ByteArray.size_append]; omega
              have hz2 : ((joinB (ss.take (k + 1)) sep).size : Int) = ((k + 1 : Nat) : Int) - 1 + sizes (ss.take (k + 1)) := by
                have := joinB_size sep H1.out (ss.take (k + 1)) (by rw [List.length_take]; omega)
                rw [this, List.length_take]; congr 2; omega
              have hk1 : (0 : Int) < (k : Int) := by omega
              generalize hJ : joinB (ss.take k) sep = J at *
              have HJ := Lib.hid hJ
              clear hJ
              by_cases hbig : 4000 < (J.size : Int) + sep.size + s.size
              · have HF := Lib.hid (HK.out.trans (long_take (k := k + 1) (by omega) (by omega)))
                clear hz hz2
                go_wp2
                go_quiet ((go_at_call 32; exact Calls.quiet_of_same (standsNo s c _ hszm HH)))
                go_wp2
                go_ret2
                exact ⟨ret2 (resJ_no HF.out) HF.out.symm, drewN_b hbl _⟩
              · have HZ := Lib.hid hz
                clear hz hz2
                go_wp2
                go_quiet ((go_at_call 32; exact Calls.quiet_of_same (standsNo s c _ hszm HH)))
                go_wp2
                go_roundw
                case rel =>
                  refine ⟨k + 1, by omega, by go_num, by rw [HT2.out], by rw [HZ.out]; omega, ?_, drewN_b hbl _⟩
                  intro t ht
                  rw [take_snoc HS.out] at ht
                  rcases List.mem_append.1 ht with h | h
                  · exact HN.out t h
                  · rw [List.mem_singleton.1 h]; exact HH.out
                case measure => simp [intOf]; omega
            · have hk1 : ¬ (0 : Int) < (k : Int) := by omega
              have HK0 := Lib.hid (show k = 0 by omega)
              have HT2 := Lib.hid (show joinB (ss.take (k + 1)) sep = s by rw [HT.out, if_neg (by omega)])
              have hz2 : ((joinB (ss.take (k + 1)) sep).size : Int) = ((k + 1 : Nat) : Int) - 1 + sizes (ss.take (k + 1)) := by
                have := joinB_size sep H1.out (ss.take (k + 1)) (by rw [List.length_take]; omega)
                rw [this, List.length_take]; congr 2; omega
              rw [HT2.out] at hz2
              have he0 : joinB (ss.take k) sep = ByteArray.empty := by rw [HK0.out]; rfl
              rw [he0]
              by_cases hbig : 4000 < (s.size : Int)
              · have HF := Lib.hid (HK.out.trans (long_take (k := k + 1) (by omega) (by omega)))
                clear hz2 he0 hle
                go_wp2
                go_quiet ((go_at_call 32; exact Calls.quiet_of_same (standsNo s c _ hszm HH)))
                go_wp2
                go_ret2
                exact ⟨ret2 (resJ_no HF.out) HF.out.symm, drewN_b hbl _⟩
              · clear hz2 he0 hle
                go_wp2
                go_quiet ((go_at_call 32; exact Calls.quiet_of_same (standsNo s c _ hszm HH)))
                go_wp2
                go_roundw
                case rel =>
                  refine ⟨k + 1, by omega, by go_num, by rw [HT2.out], by rw [HT2.out]; omega, ?_, drewN_b hbl _⟩
                  intro t ht
                  rw [take_snoc HS.out] at ht
                  rcases List.mem_append.1 ht with h | h
                  · exact HN.out t h
                  · rw [List.mem_singleton.1 h]; exact HH.out
                case measure => simp [intOf]; omega
        · have HF := Lib.hid (show okJ ss sep = true by
            rw [HK.out]
            have h2 := HN.out
            have h3 := hle
            rw [take_all hlt] at h2 h3
            rw [joinB_size sep H1.out ss hne] at h3
            exact fits_yes h3 h2)
          have HT := Lib.hid (take_all hlt)
          clear hc hle
          go_wp2
          go_ret2
          exact ⟨ret2 (by rw [HT.out]; exact resJ_yes HF.out) HF.out.symm, hbl⟩
    · have HO := Lib.hid (ok_nil (sep := sep) hne)
      have h2 : ((ss.length : Int) == 0) = true := by simp; exact List.length_eq_zero_iff.1 (by omega)
      clear hc
      go_enter Try.func13, Try.ntmps13
      go_wp2
      go_ret2
      exact ⟨ret2 (resJ_no HO.out) HO.out.symm, Below.refl _ _⟩
  · have HO := Lib.hid (ok_sep (ss := ss) h1)
    have h2 : ((sep.size : Int) != 1) = true := by simp; omega
    clear hc h1
    go_enter Try.func13, Try.ntmps13
    go_wp2
    go_ret2
    exact ⟨ret2 (resJ_no HO.out) HO.out.symm, Below.refl _ _⟩

set_option maxHeartbeats 1000000 in
theorem walk_main (ss : List ByteArray) (v : Value) (sep : ByteArray) (w : World) (h : Lst Value.string w w.heap.size v ss) (ht : (ss.length : Int) + sizes ss ≤ 1048576) (hs : sep.size ≤ 1048576) :
    Calls Try.prog 5 #[v, .string sep] w fun e w' => e = .returned (.bool true) ∧ Below w.heap.size w w' := by
  have hsi : (sep.size : Int) ≤ 1048576 := by omega
  have hq := sizes_nonneg ss
  have hln : ss.length ≤ 1048576 := by omega
  have hsz : (0 : Int) ≤ 1048576 - ss.length - sizes ss := by omega
  go_enter Try.func5, Try.ntmps5
  go_wp2_with fail
  refine (szStringS_le ss v _ w _ h (by omega) (by omega) ht).mono ?_
  rintro e w0 ⟨rfl, rfl⟩
  go_wp2_with fail
  refine (toStringS_any ss v _ _ h (Nat.le_refl _) hln).mono ?_
  rintro e w1 ⟨x1, rfl, ho1, hb1⟩
  have h1 := h.below hb1
  have hz1 := hb1.size
  go_wp2_with fail
  refine (specJoin ss x1 sep _ _ (Own.of_row ho1).lst (Nat.le_refl _) ht hs).mono ?_
  rintro e w2 ⟨rfl, hb2⟩
  have h2 := h1.below (hb2.mono hz1)
  have hz2 := hb2.size
  go_wp2_with fail
  refine (toStringS_any ss v _ _ h2 (by omega) hln).mono ?_
  rintro e w3 ⟨x3, rfl, ho3, hb3⟩
  have h3 := h2.below (hb3.mono (by omega))
  have hz3 := hb3.size
  have hx3 := (Own.of_row ho3).lst
  go_wp2_with fail
  refine (implJoin ss x3 sep _ _ hx3 (Nat.le_refl _) ht hs).mono ?_
  rintro e w4 ⟨rfl, hb4⟩
  have h4 := h3.below (hb4.mono (by omega))
  have hz4 := hb4.size
  have hx4 := hx3.below hb4
  go_wp2_with fail
  refine (toStringS_any ss v _ _ h4 (by omega) hln).mono ?_
  rintro e w5 ⟨x5, rfl, ho5, hb5⟩
  have hz5 := hb5.size
  have hx5 := (hx4.below (hb5.mono hz4)).mono (B' := w5.heap.size) (by omega)
  go_wp2_with fail
  refine (eqStringS_any ss ss x3 x5 _ _ hx5 (Own.of_row ho5).lst (Nat.le_refl _) rfl).mono ?_
  rintro e w6 ⟨rfl, hb6⟩
  have hb : Below w0.heap.size w0 w6 := ((((hb1.trans (hb2.mono (by omega))).trans (hb3.mono (by omega))).trans (hb4.mono (by omega))).trans (hb5.mono (by omega))).trans (hb6.mono (by omega))
  go_wp2
  go_ret
  exact ⟨rfl, hb⟩

theorem walk_all (v : Value) {H : Type} {enc : TypeId × Value → H} {base : Nat} {d : DataW H} {ps : List MemPlace} {w : World} (hval : Value.okWide Try.prog w .any base 26 v)
    (hd : DataW.Trod enc Try.prog w 0 (fun _ => true) true 26 v d ps) (sep : ByteArray) (_ : sep.size ≤ maxLen) :
    Calls Try.prog 5 #[v, .string sep] w fun e w' => e = .returned (.bool true) ∧ Below w.heap.size w w' := by
  obtain ⟨ss, h, hm⟩ := open_strs Try.underlying26 Try.underlying9 (by kernel_rfl) hval hd
  by_cases hs : 1048576 < sep.size
  · go_enter Try.func5, Try.ntmps5
    go_wp2
    go_ret
    exact ⟨rfl, Below.refl _ _⟩
  · by_cases ht : (ss.length : Int) + sizes ss ≤ 1048576
    · exact walk_main ss v sep w h ht (by omega)
    · go_enter Try.func5, Try.ntmps5
      go_wp2_with fail
      refine (szStringS_gt ss v _ w _ h hm (by omega) (by omega) (by omega)).mono ?_
      rintro e w0 ⟨rfl, rfl⟩
      go_wp2
      go_ret
      exact ⟨rfl, Below.refl _ _⟩

theorem contract (H : Type) (enc : TypeId × Value → H) (W : World) (base : Nat) (args : Array Value) (ds gs : List (DataW H)) (before : List MemPlace)
    (hval : ∀ (j : Nat) t v, Try.f5.params[j]? = some t → args[j]? = some v → Value.okWide Try.prog W .any base t v)
    (hW : DataW.Whole enc Try.prog Try.f5.params.toList Rows.fnExactJoinStringsSpec.vars false W args.toList ds gs before) :
    Calls Try.prog 5 args W fun e W' => ∃ v, e = .returned v ∧ Rows.fnExactJoinStringsSpec.post enc Try.prog Try.f5 false true false false W args v W' := by
  have hW' := hW
  obtain ⟨p, q, hA0, hV, rfl, hfz, hnd⟩ := hW
  have hA : DataW.TrodAll enc Try.prog W 0 (fun _ => true) true Try.f5.params.toList args.toList ds p := hA0
  rw [Try.params5] at hA hval
  obtain ⟨v0, vs0, d0, ds0, p0, q0, hargs, rfl, rfl, h0, r0⟩ := trodAll_cons hA
  obtain ⟨v1, vs1, d1, ds1, p1, q1, rfl, rfl, rfl, h1, r1⟩ := trodAll_cons r0
  obtain ⟨rfl, rfl, rfl⟩ := trodAll_nil r1
  obtain rfl : args = #[v0, v1] := by cases args; simp_all
  obtain ⟨s1, rfl, rfl, rfl, hm1⟩ := open_string Try.underlying9 (hval 1 9 v1 rfl rfl) h1
  refine lawPost rfl rfl Try.underlying4 (by kernel_rfl) (by kernel_rfl) hW' (fun hg => by subst hg; exact ⟨rfl, rfl, rfl⟩) ?_
  exact walk_all v0 (hval 0 26 v0 rfl rfl) h0 s1 hm1

set_option maxRecDepth 100000 in
theorem lifted (os : Os) (started : os.Started) (H : Type) (enc : TypeId × Value → H) :
    ReturnsInHanded {} Try.checked os 5 .any (Rows.fnExactJoinStringsSpec.pre6 enc Try.prog Try.f5 Rows.fnExactJoinStringsRow.domain false) (Rows.fnExactJoinStringsSpec.post enc Try.prog Try.f5 false true false false) := by
  refine returnsInHanded_of_change (C := Try.checked) (s := Rows.fnExactJoinStringsSpec) own started (by kernel_rfl) Try.func5
    (ChangeSpec.witness6 (enc := enc) (C := Try.checked) (s := Rows.fnExactJoinStringsSpec) false ⟨#[], #[.slice none 0 0, .string .empty], []⟩ 8 (by kernel_rfl) (by kernel_rfl) (by kernel_rfl) (by kernel_rfl)) ?_
  intro W base args ds gs before hval hW _ _
  exact contract H enc W base args ds gs before hval hW

theorem said : Rows.FnExactJoinStringsSaid :=
  OpenClaim.holds_of_wide 5 Try.f5 rfl rfl rfl rfl rfl rfl rfl ⟨rfl, rfl, rfl, rfl, rfl⟩ rfl rfl rfl rfl rfl (by kernel_rfl) Try.func5 (by kernel_rfl)
    (of_decide_eq_true (by kernel_rfl)) (by unfold Func.isWrapper; first | (rw [if_pos (by decide +kernel)]; kernel_rfl) | (rw [if_neg (by decide +kernel)]; exact ⟨rfl, rfl⟩))
    (fun os started H enc _ => lifted os started H enc)

end Go.Proofs.Ytkjiejobiihipaa.fnExactJoinStrings
