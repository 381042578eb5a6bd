/- Valid traces: both programs ask the same. -/
import Derived.Test.YtklilfbokpljkacTrc
import Derived.Deep.QuietTactic
import Derived.BigQuiet
import Derived.Handy
namespace Go.Proofs.Ytklilfbokpljkac
open Go.ChangeShapes Go.WideShapes Go.ChangeAt Go.RowKit Go.ChangeMaps
set_option linter.unusedSimpArgs false
set_option linter.unusedVariables false

theorem quiet_left {P : Program} {f : FuncId} {args : Array Value} {w : World} {n : Nat} {v : Value}
    (h : Calls P f args (w.drewN n) fun e w' => e = .returned v ∧ w.drewN n = w') : Calls P f args (w.drewN n) fun e w'' => e = .returned v ∧ ∃ m, w'' = w.drewN m :=
  h.mono fun _ _ ⟨he, hm⟩ => ⟨he, n, hm.symm⟩

def okX (l : List Int) : Bool := decide (∀ x ∈ l, -100000 ≤ x ∧ x ≤ 100000)
theorem okX_get {l : List Int} (h : okX l = true) {k : Nat} {x : Int} (hx : l[k]? = some x) : -100000 ≤ x ∧ x ≤ 100000 := by
  unfold okX at h
  exact of_decide_eq_true h x (List.mem_of_getElem? hx)
theorem okX_bad {l : List Int} {k : Nat} {x : Int} (hx : l[k]? = some x) (h : ¬ (-100000 ≤ x ∧ x ≤ 100000)) : okX l = false := by
  unfold okX
  exact decide_eq_false fun g => h (g x (List.mem_of_getElem? hx))
theorem okX_snoc {l : List Int} {k : Nat} {x : Int} (hx : l[k]? = some x) (h : -100000 ≤ x ∧ x ≤ 100000) (g : okX (l.take k) = true) : okX (l.take (k + 1)) = true := by
  unfold okX at *
  rw [take_snoc hx]
  have g' := of_decide_eq_true g
  refine decide_eq_true fun y hy => ?_
  rcases List.mem_append.1 hy with hy | hy
  · exact g' y hy
  · rw [List.mem_singleton.1 hy]; exact h

def goodT (t : Tr) : Bool := decide (1 ≤ t.st ∧ t.st ≤ 99 ∧ 0 ≤ t.start ∧ t.start ≤ 1000000 ∧ (t.xs.length : Int) ≤ 24 ∧ t.start + (t.xs.length : Int) ≤ 1000001) && okX t.xs
theorem goodT_yes {t : Tr} (h : goodT t = true) : (1 ≤ t.st ∧ t.st ≤ 99 ∧ 0 ≤ t.start ∧ t.start ≤ 1000000 ∧ (t.xs.length : Int) ≤ 24 ∧ t.start + (t.xs.length : Int) ≤ 1000001) ∧ okX t.xs = true := by
  unfold goodT at h
  rw [Bool.and_eq_true] at h
  exact ⟨of_decide_eq_true h.1, h.2⟩
theorem goodT_mk {t : Tr} (h : 1 ≤ t.st ∧ t.st ≤ 99 ∧ 0 ≤ t.start ∧ t.start ≤ 1000000 ∧ (t.xs.length : Int) ≤ 24 ∧ t.start + (t.xs.length : Int) ≤ 1000001) (g : okX t.xs = true) : goodT t = true := by
  unfold goodT
  rw [decide_eq_true h, g]; rfl
theorem goodT_no {t : Tr} (h : ¬ (1 ≤ t.st ∧ t.st ≤ 99 ∧ 0 ≤ t.start ∧ t.start ≤ 1000000 ∧ (t.xs.length : Int) ≤ 24 ∧ t.start + (t.xs.length : Int) ≤ 1000001)) : goodT t = false := by
  unfold goodT
  rw [decide_eq_false h]; rfl
theorem goodT_bad {t : Tr} (h : okX t.xs = false) : goodT t = false := by
  unfold goodT
  rw [h, Bool.and_false]

/-- A list of samples. -/
def okL (l : List Int) : Bool := okX l && decide ((l.length : Int) ≤ 24)
theorem okL_yes {l : List Int} (h : okL l = true) : (∀ x ∈ l, -100000 ≤ x ∧ x ≤ 100000) ∧ l.length ≤ 24 := by
  unfold okL at h
  rw [Bool.and_eq_true] at h
  exact ⟨of_decide_eq_true h.1, by have := of_decide_eq_true h.2; omega⟩
theorem okL_mk {l : List Int} (h : ∀ x ∈ l, -100000 ≤ x ∧ x ≤ 100000) (g : l.length ≤ 24) : okL l = true := by
  unfold okL okX
  rw [decide_eq_true h, decide_eq_true (show (l.length : Int) ≤ 24 by omega)]; rfl
set_option maxHeartbeats 400000 in
theorem implAreS (xs : List Int) (v : Value) (w : World) (B : Nat) (h : Lst (Value.int .i64) w B v xs) :
    Calls Try.prog 120 #[v] w fun e w' => e = .returned (.bool (okL xs)) ∧ w' = w := by
  obtain ⟨ao, cap, rfl, hcap, hmax, -, hc⟩ := h
  by_cases h1 : (xs.length : Int) ≤ 24
  · go_enter Try.func120, Try.ntmps120
    go_wp2
    go_loop [10] (fun i => ∃ k : Nat, k ≤ xs.length ∧ i = .int .i64 k ∧ okX (xs.take k) = true) (fun i => xs.length - (intOf i).toNat)
    case atStart => exact ⟨0, Nat.zero_le _, rfl, by simp [okX]⟩
    case round =>
      obtain ⟨k, hk, rfl, hok⟩ := hrel
      have HO := Lib.hid hok
      clear hok
      by_cases hlt : k < xs.length
      · obtain ⟨x, hx⟩ := get_of_lt hlt
        obtain ⟨b, off, rfl, hb, hcell⟩ := hc k x hx
        have HX := Lib.hid hx
        clear hx hc
        by_cases hin : -100000 ≤ x ∧ x ≤ 100000
        · obtain ⟨i1, i2⟩ := hin
          go_wp2
          go_round
          case rel => exact ⟨k + 1, by omega, by go_num, okX_snoc HX.out ⟨i1, i2⟩ HO.out⟩
          case measure => simp [intOf]; omega
        · have HG := Lib.hid (show okL xs = false by unfold okL; rw [okX_bad HX.out hin]; rfl)
          go_wp2
          all_goals first
            | (go_ret; exact ⟨ret_bool HG.out.symm, rfl⟩)
            | go_wall
      · rw [take_all hlt] at HO
        have HG := Lib.hid (show okL xs = true by unfold okL; rw [HO.out, decide_eq_true h1]; rfl)
        clear hc
        go_wp2
        go_ret
        exact ⟨ret_bool HG.out.symm, rfl⟩
  · have HG := Lib.hid (show okL xs = false by unfold okL; rw [decide_eq_false h1, Bool.and_false])
    clear hc
    go_enter Try.func120, Try.ntmps120
    go_wp2
    go_ret
    exact ⟨ret_bool HG.out.symm, rfl⟩
theorem implAreSB (xs : List Int) (v : Value) (w : World) (B : Nat) (r : Bool) (h : Lst (Value.int .i64) w B v xs) (hr : okL xs = r) :
    Calls Try.prog 120 #[v] w fun e w' => e = .returned (.bool r) ∧ w' = w := hr ▸ implAreS xs v w B h

theorem stidYes (x : Int) (w : World) (h : 1 ≤ x ∧ x ≤ 99) : Calls Try.prog 119 #[.int .i64 x] w fun e w' => e = .returned (.bool true) ∧ w' = w := by
  obtain ⟨h1, h2⟩ := h
  go_enter Try.func119, Try.ntmps119
  go_wp2
  go_ret
  exact ⟨rfl, rfl⟩
theorem tickIY (x : Int) (w : World) (h : 0 ≤ x ∧ x ≤ 1000000) : Calls Try.prog 95 #[.int .i64 x] w fun e w' => e = .returned (.bool true) ∧ w' = w := by
  obtain ⟨h1, h2⟩ := h
  go_enter Try.func95, Try.ntmps95
  go_wp2
  go_ret
  exact ⟨rfl, rfl⟩

set_option maxHeartbeats 400000 in
theorem implGood (t : Tr) (v : Value) (w : World) (B : Nat) (h : TrL w B v t) (hB : B ≤ w.heap.size) :
    Calls Try.prog 80 #[v] w fun e w' => e = .returned (.bool (goodT t)) ∧ Below w.heap.size w w' := by
  obtain ⟨vs, rfl, hl⟩ := h
  obtain ⟨ao, cap, rfl, hcap, hmax, h0, hc⟩ := id hl
  have hl0 := hl.below ((Below.refl B w).alloc hB (.cells #[.int .i64 t.st, .int .i64 t.start, .slice ao t.xs.length cap] 28))
  by_cases h1 : 1 ≤ t.st ∧ t.st ≤ 99 ∧ 0 ≤ t.start ∧ t.start ≤ 1000000
  · obtain ⟨h1, h2, h3, h4⟩ := h1
    cases hk : okL t.xs with
    | false =>
      have HG := Lib.hid (show goodT t = false by
        unfold okL at hk
        rw [Bool.and_eq_false_iff] at hk
        rcases hk with g | g
        · exact goodT_bad g
        · exact goodT_no (fun h => (of_decide_eq_false g) h.2.2.2.2.1))
      have C := Lib.hid (implAreSB _ _ _ B false hl0 hk)
      clear hk hc
      go_enter Try.func80, Try.ntmps80
      go_wp2_with fail
      refine (stidYes _ _ ⟨h1, h2⟩).mono ?_
      rintro e w5 ⟨rfl, rfl⟩
      go_wp2_with fail
      refine (tickIY _ _ ⟨h3, h4⟩).mono ?_
      rintro e w5 ⟨rfl, rfl⟩
      go_wp2_with fail
      refine C.out.mono ?_
      rintro e w1 ⟨rfl, rfl⟩
      go_wp2
      go_ret
      exact ⟨ret_bool HG.out.symm, (Below.refl _ _).alloc (Nat.le_refl _) _⟩
    | true =>
      obtain ⟨g1, g2⟩ := okL_yes hk
      have HX := Lib.hid (show okX t.xs = true from decide_eq_true g1)
      have g5 : (t.xs.length : Int) ≤ 24 := by omega
      have C := Lib.hid (implAreSB _ _ _ B true hl0 hk)
      clear hk hc g1
      by_cases h6 : t.start + (t.xs.length : Int) ≤ 1000001
      · have HG := Lib.hid (goodT_mk ⟨h1, h2, h3, h4, g5, h6⟩ HX.out)
        go_enter Try.func80, Try.ntmps80
        go_wp2_with fail
        refine (stidYes _ _ ⟨h1, h2⟩).mono ?_
        rintro e w5 ⟨rfl, rfl⟩
        go_wp2_with fail
        refine (tickIY _ _ ⟨h3, h4⟩).mono ?_
        rintro e w5 ⟨rfl, rfl⟩
        go_wp2_with fail
        refine C.out.mono ?_
        rintro e w1 ⟨rfl, rfl⟩
        go_wp2
        go_ret
        exact ⟨ret_bool (by rw [HG.out]; simp; omega), ((Below.refl _ _).alloc (Nat.le_refl _) _).alloc (by simp) _⟩
      · have HG := Lib.hid (goodT_no (t := t) (fun h => h6 h.2.2.2.2.2))
        go_enter Try.func80, Try.ntmps80
        go_wp2_with fail
        refine (stidYes _ _ ⟨h1, h2⟩).mono ?_
        rintro e w5 ⟨rfl, rfl⟩
        go_wp2_with fail
        refine (tickIY _ _ ⟨h3, h4⟩).mono ?_
        rintro e w5 ⟨rfl, rfl⟩
        go_wp2_with fail
        refine C.out.mono ?_
        rintro e w1 ⟨rfl, rfl⟩
        go_wp2
        go_ret
        exact ⟨ret_bool (by rw [HG.out]; simp; omega), ((Below.refl _ _).alloc (Nat.le_refl _) _).alloc (by simp) _⟩
  · have HG := Lib.hid (goodT_no (t := t) (fun h => h1 ⟨h.1, h.2.1, h.2.2.1, h.2.2.2.1⟩))
    clear hc
    go_enter Try.func80, Try.ntmps80
    go_wp2
    all_goals first
      | (go_ret; exact ⟨ret_bool HG.out.symm, (Below.refl _ _).alloc (Nat.le_refl _) _⟩)
      | go_wall

theorem inYes (x a b : Int) (w : World) (h : a ≤ x ∧ x ≤ b) :
    Calls Try.prog 90 #[.int .i64 x, .int .i64 a, .int .i64 b] w fun e w' => e = .returned (.bool true) ∧ w' = w := by
  obtain ⟨h1, h2⟩ := h
  go_enter Try.func90, Try.ntmps90
  go_wp2
  go_ret
  exact ⟨rfl, rfl⟩
theorem inNo (x a b : Int) (w : World) (h : ¬ (a ≤ x ∧ x ≤ b)) :
    Calls Try.prog 90 #[.int .i64 x, .int .i64 a, .int .i64 b] w fun e w' => e = .returned (.bool false) ∧ w' = w := by
  go_enter Try.func90, Try.ntmps90
  by_cases h1 : a ≤ x
  · have h2 : ¬ x ≤ b := fun g => h ⟨h1, g⟩
    go_wp2
    go_ret
    exact ⟨rfl, rfl⟩
  · go_wp2
    go_ret
    exact ⟨rfl, rfl⟩
theorem tickYes (x : Int) (w : World) (h : 0 ≤ x ∧ x ≤ 1000000) :
    Calls Try.prog 98 #[.int .i64 x] w fun e w' => e = .returned (.bool true) ∧ w' = w := by
  go_enter Try.func98, Try.ntmps98
  go_wp2_with fail
  refine (inYes x 0 1000000 _ h).mono ?_
  rintro e w' ⟨rfl, rfl⟩
  go_wp2
  go_ret
  exact ⟨rfl, rfl⟩
theorem tickNo (x : Int) (w : World) (h : ¬ (0 ≤ x ∧ x ≤ 1000000)) :
    Calls Try.prog 98 #[.int .i64 x] w fun e w' => e = .returned (.bool false) ∧ w' = w := by
  go_enter Try.func98, Try.ntmps98
  go_wp2_with fail
  refine (inNo x 0 1000000 _ h).mono ?_
  rintro e w' ⟨rfl, rfl⟩
  go_wp2
  go_ret
  exact ⟨rfl, rfl⟩
theorem mostAny (x y : Int) (w : World) :
    Calls Try.prog 105 #[.int .i64 x, .int .i64 y] w fun e w' => e = .returned (.int .i64 (if y < x then x else y)) ∧ w' = w := by
  by_cases h : y < x
  · rw [if_pos h]
    go_enter Try.func105, Try.ntmps105
    go_wp2
    go_ret
    exact ⟨rfl, rfl⟩
  · rw [if_neg h]
    go_enter Try.func105, Try.ntmps105
    go_wp2
    go_ret
    exact ⟨rfl, rfl⟩

theorem l2Samples (l : List Int) (v : Value) (w : World) (B : Nat) (h : Lst (Value.int .i64) w B v l) :
    Calls Try.prog 118 #[v] w fun e w' => e = .returned (.bool (okX l && decide ((l.length : Int) ≤ 24))) ∧ w' = w := by
  obtain ⟨ao, cap, rfl, hcap, hmax, -, hc⟩ := h
  unfold maxLen at hmax
  go_enter Try.func118, Try.ntmps118
  go_wp2
  go_loop [3] (fun i => ∃ k : Nat, k ≤ l.length ∧ i = .int .i64 k ∧ okX (l.take k) = true) (fun i => l.length - (intOf i).toNat)
  case atStart => exact ⟨0, Nat.zero_le _, rfl, by simp [okX]⟩
  case round =>
    obtain ⟨k, hk, rfl, hok⟩ := hrel
    have HO := Lib.hid hok
    clear hok
    by_cases hlt : k < l.length
    · obtain ⟨x, hx⟩ := get_of_lt hlt
      obtain ⟨b, off, rfl, hb, hcell⟩ := hc k x hx
      have HX := Lib.hid hx
      clear hx hc
      by_cases hin : -100000 ≤ x ∧ x ≤ 100000
      · go_wp2_with fail
        refine (inYes x _ _ _ hin).mono ?_
        rintro e w' ⟨rfl, rfl⟩
        go_wp2
        go_round
        case rel => exact ⟨k + 1, by omega, by go_num, okX_snoc HX.out hin HO.out⟩
        case measure => simp [intOf]; omega
      · have HG := Lib.hid (okX_bad HX.out hin)
        go_wp2_with fail
        refine (inNo x _ _ _ hin).mono ?_
        rintro e w' ⟨rfl, rfl⟩
        go_wp2
        go_ret
        exact ⟨ret_bool (by rw [HG.out]; rfl), rfl⟩
    · rw [take_all hlt] at HO
      clear hc
      go_wp2
      go_ret
      exact ⟨ret_bool (by rw [HO.out]; rfl), rfl⟩
theorem l2SamplesB (l : List Int) (v : Value) (w : World) (B : Nat) (r : Bool) (h : Lst (Value.int .i64) w B v l) (hr : (okX l && decide ((l.length : Int) ≤ 24)) = r) :
    Calls Try.prog 118 #[v] w fun e w' => e = .returned (.bool r) ∧ w' = w := hr ▸ l2Samples l v w B h
theorem mostB (x y z : Int) (w : World) (h : (if y < x then x else y) = z) :
    Calls Try.prog 105 #[.int .i64 x, .int .i64 y] w fun e w' => e = .returned (.int .i64 z) ∧ w' = w := h ▸ mostAny x y w

set_option maxHeartbeats 400000 in
theorem specGood (t : Tr) (v : Value) (w : World) (B : Nat) (h : TrL w B v t) (hB : B ≤ w.heap.size) :
    Calls Try.prog 77 #[v] w fun e w' => e = .returned (.bool (goodT t)) ∧ Below w.heap.size w w' := by
  obtain ⟨vs, rfl, hl⟩ := h
  obtain ⟨ao, cap, rfl, hcap, hmax, -, hc⟩ := id hl
  have hb0 : Below B w (w.alloc (.cells #[.int .i64 t.st, .int .i64 t.start, .slice ao t.xs.length cap] 28)) := (Below.refl B w).alloc hB _
  have hl2 : ∀ n, Lst (Value.int .i64) ((w.alloc (.cells #[.int .i64 t.st, .int .i64 t.start, .slice ao t.xs.length cap] 28)).drewN n) B (.slice ao t.xs.length cap) t.xs := fun n => (hl.below hb0).below (drewN_b (Below.refl _ _) n)
  have HL := Lib.hid hl2
  clear hl2 hb0 hl hc
  by_cases h1 : 1 ≤ t.st ∧ t.st ≤ 99
  · by_cases h2 : 0 ≤ t.start ∧ t.start ≤ 1000000
    · by_cases h3 : (okX t.xs && decide ((t.xs.length : Int) ≤ 24)) = true
      · have h3' := h3
        rw [Bool.and_eq_true, decide_eq_true_eq] at h3'
        obtain ⟨h4, h5⟩ := h3'
        have H3 := Lib.hid h3
        have H4 := Lib.hid h4
        clear h3 h4
        by_cases h6 : t.start + (t.xs.length : Int) ≤ 1000001
        · have HG := Lib.hid (goodT_mk ⟨h1.1, h1.2, h2.1, h2.2, h5, h6⟩ H4.out)
          go_enter Try.func77, Try.ntmps77
          go_wp2
          go_quiet ((first
            | (go_at_call 90; exact Calls.quiet_of_same (inYes _ _ _ _ h1))
            | (go_at_call 118; exact Calls.quiet_of_same (l2SamplesB _ _ _ _ _ (HL.out _) H3.out))
            | (go_at_call 105; exact Calls.quiet_of_same (mostAny _ _ _))
            | (go_at_call 98; exact Calls.quiet_of_same (tickYes _ _ (by first | omega | (split <;> omega))))
            | (go_at_call 98; exact Calls.quiet_of_same (tickYes _ _ (by first | omega | (split <;> omega))))))
          go_wp2; all_goals (go_ret; exact ⟨ret_bool HG.out.symm, drewN_b ((Below.refl _ _).alloc (Nat.le_refl _) _) _⟩)
        · have HG := Lib.hid (goodT_no (t := t) (fun h => h6 h.2.2.2.2.2))
          go_enter Try.func77, Try.ntmps77
          go_wp2
          go_quiet ((first
            | (go_at_call 90; exact Calls.quiet_of_same (inYes _ _ _ _ h1))
            | (go_at_call 118; exact Calls.quiet_of_same (l2SamplesB _ _ _ _ _ (HL.out _) H3.out))
            | (go_at_call 105; exact Calls.quiet_of_same (mostAny _ _ _))
            | (go_at_call 98; exact Calls.quiet_of_same (tickYes _ _ (by first | omega | (split <;> omega))))
            | (go_at_call 98; exact Calls.quiet_of_same (tickNo _ _ (by first | omega | (split <;> omega))))))
          go_wp2; all_goals (go_ret; exact ⟨ret_bool HG.out.symm, drewN_b ((Below.refl _ _).alloc (Nat.le_refl _) _) _⟩)
      · have h3' : (okX t.xs && decide ((t.xs.length : Int) ≤ 24)) = false := by simpa using h3
        have HG : Hid (goodT t = false) := by
          rw [Bool.and_eq_false_iff] at h3'
          rcases h3' with g | g
          · exact goodT_bad g
          · exact goodT_no (fun h => (of_decide_eq_false g) h.2.2.2.2.1)
        have H3 := Lib.hid h3'
        clear h3 h3'
        go_enter Try.func77, Try.ntmps77
        go_wp2
        go_quiet ((first
          | (go_at_call 90; exact Calls.quiet_of_same (inYes _ _ _ _ h1))
          | (go_at_call 118; exact Calls.quiet_of_same (l2SamplesB _ _ _ _ _ (HL.out _) H3.out))
          | (go_at_call 98; exact Calls.quiet_of_same (tickYes _ _ (by first | omega | (split <;> omega))))))
        go_wp2; all_goals (go_ret; exact ⟨ret_bool HG.out.symm, drewN_b ((Below.refl _ _).alloc (Nat.le_refl _) _) _⟩)
    · have HG := Lib.hid (goodT_no (t := t) (fun h => h2 ⟨h.2.2.1, h.2.2.2.1⟩))
      go_enter Try.func77, Try.ntmps77
      go_wp2
      go_quiet ((first
        | (go_at_call 90; exact Calls.quiet_of_same (inYes _ _ _ _ h1))
        | (go_at_call 98; exact Calls.quiet_of_same (tickNo _ _ (by first | omega | (split <;> omega))))))
      go_wp2; all_goals (go_ret; exact ⟨ret_bool HG.out.symm, drewN_b ((Below.refl _ _).alloc (Nat.le_refl _) _) _⟩)
  · have HG := Lib.hid (goodT_no (t := t) (fun h => h1 ⟨h.1, h.2.1⟩))
    go_enter Try.func77, Try.ntmps77
    go_wp2
    go_quiet ((first
      | (go_at_call 90; exact Calls.quiet_of_same (inNo _ _ _ _ h1))))
    go_wp2; all_goals (go_ret; exact ⟨ret_bool HG.out.symm, drewN_b ((Below.refl _ _).alloc (Nat.le_refl _) _) _⟩)

theorem implGoodB (t : Tr) (v : Value) (w : World) (B : Nat) (r : Bool) (h : TrL w B v t) (hB : B ≤ w.heap.size) (hr : goodT t = r) :
    Calls Try.prog 80 #[v] w fun e w' => e = .returned (.bool r) ∧ Below w.heap.size w w' := hr ▸ implGood t v w B h hB
theorem specGoodB (t : Tr) (v : Value) (w : World) (B : Nat) (r : Bool) (h : TrL w B v t) (hB : B ≤ w.heap.size) (hr : goodT t = r) :
    Calls Try.prog 77 #[v] w fun e w' => e = .returned (.bool r) ∧ Below w.heap.size w w' := hr ▸ specGood t v w B h hB
end Go.Proofs.Ytklilfbokpljkac
