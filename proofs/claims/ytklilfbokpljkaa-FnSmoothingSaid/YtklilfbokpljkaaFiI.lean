/- Integer filters: the specification's sort. -/
import Derived.Test.YtklilfbokpljkaaFiA
import Derived.Test.YtklilfbokpljkaaApS
import Derived.Test.YtklilfbokpljkaaPkN0
import Derived.BigQuiet
import Derived.IntWalk
namespace Go.Proofs.Ytklilfbokpljkaa
open Go.ChangeShapes Go.WideShapes Go.ChangeAt Go.RowKit Go.ChangeMaps
set_option linter.unusedSimpArgs false
set_option linter.unusedVariables false

/-- The first k numbers, sorted. -/
def SrI (xs : List Int) (k : Nat) (o : List Int) : Prop := o.Pairwise (· ≤ ·) ∧ o.Perm (xs.take k)
theorem SrI.step {xs o : List Int} {k p : Nat} {x : Int} (h : SrI xs k o) (hx : xs[k]? = some x) (hp : p ≤ o.length) (h1 : p = 0 ∨ ∃ y, o[p - 1]? = some y ∧ y ≤ x) (h2 : ∀ y ∈ o.drop p, x < y) : SrI xs (k + 1) (o.take p ++ x :: o.drop p) := by
  refine ⟨ins_pw h.1 hp ?_ (fun y hy => by have := h2 y hy; omega), ?_⟩
  · intro y hy
    rcases h1 with rfl | ⟨z, hz, hzx⟩
    · simp at hy
    · by_cases h0 : p = 0
      · subst h0; simp at hy
      · have := pw_take h.1 hz y (by rw [show p - 1 + 1 = p by omega]; exact hy)
        omega
  · rw [take_snoc hx]
    exact (ins_perm o x p).trans (h.2.append_right [x])
theorem drop_more {o : List Int} {p : Nat} {x y : Int} (hp : 0 < p) (hy : o[p - 1]? = some y) (h : x < y) (h2 : ∀ y ∈ o.drop p, x < y) : ∀ y ∈ o.drop (p - 1), x < y := by
  intro z hz
  have hl := (List.getElem?_eq_some_iff.1 hy).1
  rw [List.drop_eq_getElem_cons hl, show p - 1 + 1 = p by omega] at hz
  rcases List.mem_cons.1 hz with rfl | hz
  · rw [(List.getElem?_eq_some_iff.1 hy).2]; exact h
  · exact h2 z hz
theorem row_someI {w : World} {base size n : Nat} {e : TypeId} {v : Value} {xs : List Value} (h : w.ownsRow base e size v n xs) (hn : 0 < n) : ∃ g cap, v = .slice (some ⟨g, 0, none⟩) n cap ∧ n ≤ cap ∧ cap ≤ maxLen ∧ base ≤ g ∧ g < w.heap.size := by
  rcases h.2 with ⟨rfl, rfl⟩ | ⟨g, cap, cur, rfl, h1, h2, h3, h4, _⟩
  · omega
  · exact ⟨g, cap, rfl, h3, h4, h1, (Array.getElem?_eq_some_iff.1 h2).1⟩
theorem ins_eq {o : List Int} {x : Int} {p : Nat} : ((o.take p).map (Value.int .i64) ++ [.int .i64 x]) ++ (o.drop p).map (Value.int .i64) = (o.take p ++ x :: o.drop p).map (Value.int .i64) := by simp

set_option maxRecDepth 100000 in
set_option maxHeartbeats 4000000 in
theorem specSrt (xs : List Int) (v : Value) (w : World) (B : Nat) (h : Lst (Value.int .i64) w B v xs) (hB : B ≤ w.heap.size) (hn : xs.length ≤ 1048576) :
    Calls Try.prog 122 #[v] w fun e w' => ∃ v', e = .returned v' ∧ Own (Value.int .i64) w' w.heap.size w'.heap.size v' (srt xs) ∧ Below w.heap.size w w' := by
  have hrow0 := row_empty w (base := w.heap.size) 3 1 (Nat.le_refl _)
  have hb0 : Below w.heap.size w (w.alloc (.cells #[] 3)) := (Below.refl _ _).alloc (Nat.le_refl _) _
  obtain ⟨ti, hi, hz0, hz1, hz2⟩ := info_parts infoInt
  obtain ⟨ao, cap, rfl, hcap, hmax, hnn, hc⟩ := h
  unfold maxLen at hmax
  have HC := Lib.hid hc
  clear hc hnn
  go_enter Try.func122, Try.ntmps122
  go_wp2
  go_loopw [3, 4] (fun ov i wr => ∃ (k g c : Nat) (o : List Int), k ≤ xs.length ∧ i = .int .i64 k ∧ ov = .slice (some ⟨g, 0, none⟩) k c ∧ k ≤ c ∧ c ≤ 9223372036854775807 ∧ SrI xs k o ∧ wr.ownsRow w.heap.size 3 1 ov k (o.map (Value.int .i64)) ∧ Below w.heap.size w wr) (fun _ i _ => xs.length - (intOf i).toNat)
  case atStart => exact ⟨0, _, 0, [], Nat.zero_le _, rfl, rfl, Nat.le_refl _, by omega, ⟨List.Pairwise.nil, by simp⟩, by simpa using hrow0, hb0⟩
  case round =>
    obtain ⟨k, g, c, o, hk, rfl, rfl, hkc, hc9, hS, hrow, hbl⟩ := hrel
    have hsz := hbl.size
    have HS := Lib.hid hS
    have hol : o.length = k := by have := hrow.1; simpa using this
    have HO := Lib.hid hol
    clear hS hol
    by_cases hlt : k < xs.length
    case neg =>
      obtain rfl : k = xs.length := by omega
      have HE := Lib.hid (srt_uniq (l := xs) (by have := HS.out.2; rwa [List.take_length] at this) HS.out.1)
      go_wp2
      go_ret
      exact ⟨_, rfl, by rw [← HE.out]; exact Own.of_row hrow, hbl⟩
    obtain ⟨x, hx⟩ := get_of_lt hlt
    obtain ⟨b, off, rfl, hb, hcx⟩ := HC.out k x hx
    have hcx' := cellOf hbl (by omega) hcx
    have HX := Lib.hid hx
    have HR := Lib.hid hrow
    have hi0 : (0 : Int) ≤ (k : Int) := by omega
    have hi1 : (k : Int) < (xs.length : Int) := by omega
    clear hx hcx hrow
    rename World => wo
    go_wp2
    go_loopw [5] (fun q wr => ∃ (p n : Nat), p ≤ k ∧ q = .int .i64 p ∧ (∀ y ∈ o.drop p, x < y) ∧ wr = wo.drewN n) (fun q _ => (intOf q).toNat)
    case atStart => exact ⟨k, 0, Nat.le_refl _, rfl, by rw [List.drop_of_length_le (by rw [HO.out]; omega)]; simp, rfl⟩
    case round =>
      obtain ⟨p, nd, hp, rfl, hD, rfl⟩ := hrel
      have HD := Lib.hid hD
      clear hD
      by_cases hgo : 0 < p ∧ ∃ y, o[p - 1]? = some y ∧ x < y
      · obtain ⟨hp0, y, hy, hxy⟩ := hgo
        obtain ⟨j, hj⟩ : ∃ j, p - 1 = j := ⟨_, rfl⟩
        have HD2 := Lib.hid (drop_more hp0 hy hxy HD.out)
        rw [hj] at hy HD2
        obtain ⟨ao', cap', hv', -, -, -, ho⟩ := Own.of_row HR.out
        simp only [Value.slice.injEq] at hv'
        obtain ⟨rfl, -, rfl⟩ := hv'
        obtain ⟨b3, off3, e3, -, -, hcy, -⟩ := ho j y hy
        simp only [Option.some.injEq, Addr.mk.injEq, and_true] at e3
        obtain ⟨rfl, rfl⟩ := e3
        simp only [Nat.zero_add] at hcy
        have s1 : IntKind.i64.wrap ((p : Int) - 1) = (j : Int) := by rw [IntWalk.i64_in _ (by omega)]; omega
        have i2 : (0 : Int) ≤ (j : Int) := by omega
        have i3 : (j : Int) < (k : Int) := by omega
        have i4 : (0 : Int) < (p : Int) := by omega
        have hjp : j + 1 = p := by omega
        have HJ := Lib.hid hjp
        clear ho hy hj hjp
        go_wp2
        go_quiet (fail)
        clear s1
        have hjp := HJ.out
        go_wp2
        go_roundw
        case rel => exact ⟨j, nd + nq, by omega, by go_num, HD2.out, by rfl⟩
        case measure => simp [intOf]; omega
      · by_cases hp0 : 0 < p
        case neg =>
          have HQ := Lib.hid (show p = 0 ∨ ∃ y, o[p - 1]? = some y ∧ y ≤ x from Or.inl (by omega))
          have hq0 : ¬ 0 < p := hp0
          have hq1 : decide (0 < p) = false := decide_eq_false hq0
          clear hgo hp0
          by_cases hpc : c = p
          · have hkp : p = k := by omega
            obtain rfl := hpc.symm
            obtain rfl := hkp
            go_wp2
            go_quiet (fail)
            go_wp2
            clear hq1
            have HP := Lib.hid (show SrI xs (p + 1) (o.take p ++ x :: o.drop p) from HS.out.step HX.out (by rw [HO.out]; exact hp) HQ.out HD.out)
            generalize hWq : (wo.drewN nd).drewN nq = wq at *
            have hblq : Below w.heap.size w wq := by rw [← hWq]; exact drewN_b (drewN_b hbl _) _
            have hrowq : wq.ownsRow w.heap.size 3 1 (.slice (some ⟨g, 0, none⟩) p p) p (o.map (Value.int .i64)) := by rw [← hWq]; exact row_drewN (row_drewN HR.out _) _
            have hcq : wq.cell? ⟨b, off + p, none⟩ = some (.int .i64 x) := by rw [← hWq]; exact hcx'
            have hszq := hblq.size
            have hpl : (o.take p).length = p := by rw [List.length_take, HO.out]; omega
            have LQ : Lst (Value.int .i64) wq wq.heap.size (.slice (some ⟨g, 0, none⟩) p p) (o.take p) := by
              have h1 : Lst (Value.int .i64) wq wq.heap.size (.slice (some ⟨g, 0, none⟩) p p) o := (Own.of_row hrowq).lst
              have h2 := h1.sub 0 p (Nat.zero_le _) (by rw [HO.out]; exact hp)
              simpa using h2
            have SQ : ∀ w', Below wq.heap.size wq w' → Src w' (.slice (some ⟨g, 0, none⟩) 0 0) (p - p) ((o.drop p).map (Value.int .i64)) := fun w' hb => by
              have h1 : Lst (Value.int .i64) w' wq.heap.size (.slice (some ⟨g, 0, none⟩) p p) o := (Own.of_row hrowq).lst.below hb
              have e1 : o.drop p = [] := List.drop_of_length_le (by rw [HO.out]; omega)
              rw [e1, show p - p = 0 by omega]
              exact Or.inr ⟨_, _, rfl, rfl, fun j u hu => by simp at hu, by simp⟩
            have HSQ := Lib.hid SQ
            have HOW := Lib.hid (fun w' (hb : Below wq.heap.size wq w') => show Calls Try.prog 163 #[.slice (some ⟨g, 0, none⟩) p p] w' fun e w'' => ∃ v', e = .returned v' ∧ w''.ownsRow w'.heap.size 3 1 v' p ((o.take p).map (Value.int .i64)) ∧ Below w'.heap.size w' w'' by
              have := specOwn (o.take p) _ w' wq.heap.size (LQ.below hb) hb.size (by rw [hpl]; omega)
              rwa [hpl] at this)
            have HS0 := Lib.hid (fun w' (hb : Below wq.heap.size wq w') => (⟨hb, cellOf hb (by omega) hcq⟩ : Below wq.heap.size wq w' ∧ w'.cell? ⟨b, off + p, none⟩ = some (.int .i64 x)))
            have KA : Below wq.heap.size wq wq.drew := (Below.refl _ _).drew
            have KB : Below wq.heap.size wq (wq.alloc (.cells #[.int .i64 x] 3)).drew := ((Below.refl _ _).alloc (Nat.le_refl _) _).drew
            have bB : Bx (wq.alloc (.cells #[.int .i64 x] 3)).drew wq.heap.size [.int .i64 x] := Bx.new wq [.int .i64 x] 3
            have hi2 : (0 : Int) ≤ (p : Int) := by omega
            have hi3 : (p : Int) ≤ (p : Int) := by omega
            have hi4 : (p : Int) ≤ (p : Int) := by omega
            have hi5 : (p : Int) ≤ (p : Int) := by omega
            have hcap1 : p + 1 + (p - p) ≤ maxLen := by unfold maxLen; omega
            have hcap2 : (p + 1 + (p - p)) * 8 ≤ 140737488355328 := by omega
            have hcap3 : p + 1 ≤ maxLen := by unfold maxLen; omega
            have hcap4 : (p + 1) * 8 ≤ 140737488355328 := by omega
            have HPK := Lib.hid (show p + 1 + (p - p) = p + 1 by omega)
            clear SQ LQ hrowq hcq hpl hWq

            go_wp2
            go_region_held3 (fun w' => Below wq.heap.size wq w' ∧ w'.cell? ⟨b, off + p, none⟩ = some (.int .i64 x))
              (first
                | exact HS0.out _ KA
                | exact HS0.out _ KB
                | exact HS0.out _ B6
                | exact HS0.out _ B5
                | exact HS0.out _ B4
                | exact HS0.out _ (B4.alloc B4.size _))
              (first
                | (go_at_call 163; (with_reducible refine (HOW.out wq.drew KA).mono ?_); rintro e w4 ⟨v4, rfl, r4, hb4⟩; have B4 : Below wq.heap.size wq w4 := KA.trans hb4; have z4 := B4.size; have bn := Bx.new w4 [.int .i64 x] 3)
                | (go_at_call 163; (with_reducible refine (HOW.out (wq.alloc (.cells #[.int .i64 x] 3)).drew KB).mono ?_); rintro e w4 ⟨v4, rfl, r4', hb4⟩; have B4 : Below wq.heap.size wq w4 := KB.trans (hb4.mono KB.size); have z4 := B4.size; have bn := bB.below hb4; have r4 := Go.Joins.ownsRow_le r4' KB.size)
                | (refine step_append_srcV (w4.alloc (.cells #[.int .i64 x] 3)) (by first | rfl | kernel_rfl) _ _ _ (by rfl) wq.heap.size 3 ti (.int .i64 0) 8 Try.underlying43 hi hz0 hz1 hz2 rfl v4 p ((o.take p).map (Value.int .i64)) (by rfl) (r4.alloc _) _ 1 [.int .i64 x] (by rfl) (src_boxV bn rfl) hcap3 hcap4 (by first | omega | (simp; done) | (simp; omega)) ?_; intro v5 w5 r5 hg5 hat5; have B5 : Below wq.heap.size wq w5 := Below.grown (B4.alloc B4.size _) hg5 (by first | omega | (simp; done) | (simp; omega)) (fun q hq => (r4.lt q hq).1); have z5 := B5.size; clear hg5 hat5)
                | (refine step_append_srcV (w4) (by first | rfl | kernel_rfl) _ _ _ (by rfl) wq.heap.size 3 ti (.int .i64 0) 8 Try.underlying43 hi hz0 hz1 hz2 rfl v4 p ((o.take p).map (Value.int .i64)) (by rfl) (r4) _ 1 [.int .i64 x] (by rfl) (src_boxV bn rfl) hcap3 hcap4 (by first | omega | (simp; done) | (simp; omega)) ?_; intro v5 w5 r5 hg5 hat5; have B5 : Below wq.heap.size wq w5 := Below.grown B4 hg5 (by first | omega | (simp; done) | (simp; omega)) (fun q hq => (r4.lt q hq).1); have z5 := B5.size; clear hg5 hat5)
                | (refine step_append_srcV (w5) (by first | rfl | kernel_rfl) _ _ _ (by rfl) wq.heap.size 3 ti (.int .i64 0) 8 Try.underlying43 hi hz0 hz1 hz2 rfl v5 (p + 1) ((o.take p).map (Value.int .i64) ++ [.int .i64 x]) (by rfl) (r5) _ (p - p) ((o.drop p).map (Value.int .i64)) (by rfl) (HSQ.out _ B5) hcap1 hcap2 (by first | omega | (simp; done) | (simp; omega)) ?_; intro v6 w6 r6 hg6 hat6; have B6 : Below wq.heap.size wq w6 := Below.grown B5 hg6 (by first | omega | (simp; done) | (simp; omega)) (fun q hq => (r5.lt q hq).1); have z6 := B6.size; clear hg6 hat6))
            all_goals
              have r7 := Go.Joins.ownsRow_le r6 hszq
              rw [ins_eq, HPK.out] at r7
              have bl7 := hblq.trans (B6.mono hszq)
              obtain ⟨g7, c7, rfl, hc71, hc72, -, -⟩ := row_someI r7 (by omega)
              unfold maxLen at hc72
              clear r6 r5 r4 bn B6 B5 B4 bB KA KB hb4
              go_wp2
              go_roundw
              case rel => exact ⟨p + 1, g7, c7, _, by omega, by go_num, rfl, hc71, by omega, HP.out, r7, bl7⟩
              case measure => simp [intOf]; omega
          · go_wp2
            go_quiet (fail)
            go_wp2
            clear hq1
            have HP := Lib.hid (show SrI xs (k + 1) (o.take p ++ x :: o.drop p) from HS.out.step HX.out (by rw [HO.out]; exact hp) HQ.out HD.out)
            generalize hWq : (wo.drewN nd).drewN nq = wq at *
            have hblq : Below w.heap.size w wq := by rw [← hWq]; exact drewN_b (drewN_b hbl _) _
            have hrowq : wq.ownsRow w.heap.size 3 1 (.slice (some ⟨g, 0, none⟩) k c) k (o.map (Value.int .i64)) := by rw [← hWq]; exact row_drewN (row_drewN HR.out _) _
            have hcq : wq.cell? ⟨b, off + k, none⟩ = some (.int .i64 x) := by rw [← hWq]; exact hcx'
            have hszq := hblq.size
            have hpl : (o.take p).length = p := by rw [List.length_take, HO.out]; omega
            have LQ : Lst (Value.int .i64) wq wq.heap.size (.slice (some ⟨g, 0, none⟩) p c) (o.take p) := by
              have h1 : Lst (Value.int .i64) wq wq.heap.size (.slice (some ⟨g, 0, none⟩) k c) o := (Own.of_row hrowq).lst
              have h2 := h1.sub 0 p (Nat.zero_le _) (by rw [HO.out]; exact hp)
              simpa using h2
            have SQ : ∀ w', Below wq.heap.size wq w' → Src w' (.slice (some ⟨g, p, none⟩) (k - p) (c - p)) (k - p) ((o.drop p).map (Value.int .i64)) := fun w' hb => by
              have h1 : Lst (Value.int .i64) w' wq.heap.size (.slice (some ⟨g, 0, none⟩) k c) o := (Own.of_row hrowq).lst.below hb
              have h2 := src_ints (h1.sub p k hp (by rw [HO.out]; exact Nat.le_refl _))
              rw [show (o.drop p).take (k - p) = o.drop p from List.take_of_length_le (by rw [List.length_drop, HO.out]; exact Nat.le_refl _), List.length_drop, HO.out, Nat.zero_add] at h2
              exact h2
            have HSQ := Lib.hid SQ
            have HOW := Lib.hid (fun w' (hb : Below wq.heap.size wq w') => show Calls Try.prog 163 #[.slice (some ⟨g, 0, none⟩) p c] w' fun e w'' => ∃ v', e = .returned v' ∧ w''.ownsRow w'.heap.size 3 1 v' p ((o.take p).map (Value.int .i64)) ∧ Below w'.heap.size w' w'' by
              have := specOwn (o.take p) _ w' wq.heap.size (LQ.below hb) hb.size (by rw [hpl]; omega)
              rwa [hpl] at this)
            have HS0 := Lib.hid (fun w' (hb : Below wq.heap.size wq w') => (⟨hb, cellOf hb (by omega) hcq⟩ : Below wq.heap.size wq w' ∧ w'.cell? ⟨b, off + k, none⟩ = some (.int .i64 x)))
            have KA : Below wq.heap.size wq wq.drew := (Below.refl _ _).drew
            have KB : Below wq.heap.size wq (wq.alloc (.cells #[.int .i64 x] 3)).drew := ((Below.refl _ _).alloc (Nat.le_refl _) _).drew
            have bB : Bx (wq.alloc (.cells #[.int .i64 x] 3)).drew wq.heap.size [.int .i64 x] := Bx.new wq [.int .i64 x] 3
            have hi2 : (0 : Int) ≤ (p : Int) := by omega
            have hi3 : (p : Int) ≤ (k : Int) := by omega
            have hi4 : (p : Int) ≤ (c : Int) := by omega
            have hi5 : (k : Int) ≤ (c : Int) := by omega
            have hcap1 : p + 1 + (k - p) ≤ maxLen := by unfold maxLen; omega
            have hcap2 : (p + 1 + (k - p)) * 8 ≤ 140737488355328 := by omega
            have hcap3 : p + 1 ≤ maxLen := by unfold maxLen; omega
            have hcap4 : (p + 1) * 8 ≤ 140737488355328 := by omega
            have HPK := Lib.hid (show p + 1 + (k - p) = k + 1 by omega)
            clear SQ LQ hrowq hcq hpl hWq
            have hcp : ¬ c = p := hpc
            go_wp2
            go_region_held3 (fun w' => Below wq.heap.size wq w' ∧ w'.cell? ⟨b, off + k, none⟩ = some (.int .i64 x))
              (first
                | exact HS0.out _ KA
                | exact HS0.out _ KB
                | exact HS0.out _ B6
                | exact HS0.out _ B5
                | exact HS0.out _ B4
                | exact HS0.out _ (B4.alloc B4.size _))
              (first
                | (go_at_call 163; (with_reducible refine (HOW.out wq.drew KA).mono ?_); rintro e w4 ⟨v4, rfl, r4, hb4⟩; have B4 : Below wq.heap.size wq w4 := KA.trans hb4; have z4 := B4.size; have bn := Bx.new w4 [.int .i64 x] 3)
                | (go_at_call 163; (with_reducible refine (HOW.out (wq.alloc (.cells #[.int .i64 x] 3)).drew KB).mono ?_); rintro e w4 ⟨v4, rfl, r4', hb4⟩; have B4 : Below wq.heap.size wq w4 := KB.trans (hb4.mono KB.size); have z4 := B4.size; have bn := bB.below hb4; have r4 := Go.Joins.ownsRow_le r4' KB.size)
                | (refine step_append_srcV (w4.alloc (.cells #[.int .i64 x] 3)) (by first | rfl | kernel_rfl) _ _ _ (by rfl) wq.heap.size 3 ti (.int .i64 0) 8 Try.underlying43 hi hz0 hz1 hz2 rfl v4 p ((o.take p).map (Value.int .i64)) (by rfl) (r4.alloc _) _ 1 [.int .i64 x] (by rfl) (src_boxV bn rfl) hcap3 hcap4 (by first | omega | (simp; done) | (simp; omega)) ?_; intro v5 w5 r5 hg5 hat5; have B5 : Below wq.heap.size wq w5 := Below.grown (B4.alloc B4.size _) hg5 (by first | omega | (simp; done) | (simp; omega)) (fun q hq => (r4.lt q hq).1); have z5 := B5.size; clear hg5 hat5)
                | (refine step_append_srcV (w4) (by first | rfl | kernel_rfl) _ _ _ (by rfl) wq.heap.size 3 ti (.int .i64 0) 8 Try.underlying43 hi hz0 hz1 hz2 rfl v4 p ((o.take p).map (Value.int .i64)) (by rfl) (r4) _ 1 [.int .i64 x] (by rfl) (src_boxV bn rfl) hcap3 hcap4 (by first | omega | (simp; done) | (simp; omega)) ?_; intro v5 w5 r5 hg5 hat5; have B5 : Below wq.heap.size wq w5 := Below.grown B4 hg5 (by first | omega | (simp; done) | (simp; omega)) (fun q hq => (r4.lt q hq).1); have z5 := B5.size; clear hg5 hat5)
                | (refine step_append_srcV (w5) (by first | rfl | kernel_rfl) _ _ _ (by rfl) wq.heap.size 3 ti (.int .i64 0) 8 Try.underlying43 hi hz0 hz1 hz2 rfl v5 (p + 1) ((o.take p).map (Value.int .i64) ++ [.int .i64 x]) (by rfl) (r5) _ (k - p) ((o.drop p).map (Value.int .i64)) (by rfl) (HSQ.out _ B5) hcap1 hcap2 (by first | omega | (simp; done) | (simp; omega)) ?_; intro v6 w6 r6 hg6 hat6; have B6 : Below wq.heap.size wq w6 := Below.grown B5 hg6 (by first | omega | (simp; done) | (simp; omega)) (fun q hq => (r5.lt q hq).1); have z6 := B6.size; clear hg6 hat6))
            all_goals
              have r7 := Go.Joins.ownsRow_le r6 hszq
              rw [ins_eq, HPK.out] at r7
              have bl7 := hblq.trans (B6.mono hszq)
              obtain ⟨g7, c7, rfl, hc71, hc72, -, -⟩ := row_someI r7 (by omega)
              unfold maxLen at hc72
              clear r6 r5 r4 bn B6 B5 B4 bB KA KB hb4
              go_wp2
              go_roundw
              case rel => exact ⟨k + 1, g7, c7, _, by omega, by go_num, rfl, hc71, by omega, HP.out, r7, bl7⟩
              case measure => simp [intOf]; omega

        · obtain ⟨j, hj⟩ : ∃ j, p - 1 = j := ⟨_, rfl⟩
          obtain ⟨y, hy⟩ := get_of_lt (show j < o.length by rw [HO.out]; omega)
          have hxy : ¬ x < y := fun q => hgo ⟨hp0, y, by rw [hj]; exact hy, q⟩
          have HQ := Lib.hid (show p = 0 ∨ ∃ y, o[p - 1]? = some y ∧ y ≤ x from Or.inr ⟨y, by rw [hj]; exact hy, by omega⟩)
          obtain ⟨ao', cap', hv', -, -, -, ho⟩ := Own.of_row HR.out
          simp only [Value.slice.injEq] at hv'
          obtain ⟨rfl, -, rfl⟩ := hv'
          obtain ⟨b3, off3, e3, -, -, hcy, -⟩ := ho j y hy
          simp only [Option.some.injEq, Addr.mk.injEq, and_true] at e3
          obtain ⟨rfl, rfl⟩ := e3
          simp only [Nat.zero_add] at hcy
          have s1 : IntKind.i64.wrap ((p : Int) - 1) = (j : Int) := by rw [IntWalk.i64_in _ (by omega)]; omega
          have i2 : (0 : Int) ≤ (j : Int) := by omega
          have i3 : (j : Int) < (k : Int) := by omega
          have i4 : (0 : Int) < (p : Int) := by omega
          clear ho hy hj hgo
          by_cases hpc : c = p
          · have hkp : p = k := by omega
            obtain rfl := hpc.symm
            obtain rfl := hkp
            go_wp2
            go_quiet (fail)
            clear s1
            go_wp2
            have HP := Lib.hid (show SrI xs (p + 1) (o.take p ++ x :: o.drop p) from HS.out.step HX.out (by rw [HO.out]; exact hp) HQ.out HD.out)
            generalize hWq : (wo.drewN nd).drewN nq = wq at *
            have hblq : Below w.heap.size w wq := by rw [← hWq]; exact drewN_b (drewN_b hbl _) _
            have hrowq : wq.ownsRow w.heap.size 3 1 (.slice (some ⟨g, 0, none⟩) p p) p (o.map (Value.int .i64)) := by rw [← hWq]; exact row_drewN (row_drewN HR.out _) _
            have hcq : wq.cell? ⟨b, off + p, none⟩ = some (.int .i64 x) := by rw [← hWq]; exact hcx'
            have hszq := hblq.size
            have hpl : (o.take p).length = p := by rw [List.length_take, HO.out]; omega
            have LQ : Lst (Value.int .i64) wq wq.heap.size (.slice (some ⟨g, 0, none⟩) p p) (o.take p) := by
              have h1 : Lst (Value.int .i64) wq wq.heap.size (.slice (some ⟨g, 0, none⟩) p p) o := (Own.of_row hrowq).lst
              have h2 := h1.sub 0 p (Nat.zero_le _) (by rw [HO.out]; exact hp)
              simpa using h2
            have SQ : ∀ w', Below wq.heap.size wq w' → Src w' (.slice (some ⟨g, 0, none⟩) 0 0) (p - p) ((o.drop p).map (Value.int .i64)) := fun w' hb => by
              have h1 : Lst (Value.int .i64) w' wq.heap.size (.slice (some ⟨g, 0, none⟩) p p) o := (Own.of_row hrowq).lst.below hb
              have e1 : o.drop p = [] := List.drop_of_length_le (by rw [HO.out]; omega)
              rw [e1, show p - p = 0 by omega]
              exact Or.inr ⟨_, _, rfl, rfl, fun j u hu => by simp at hu, by simp⟩
            have HSQ := Lib.hid SQ
            have HOW := Lib.hid (fun w' (hb : Below wq.heap.size wq w') => show Calls Try.prog 163 #[.slice (some ⟨g, 0, none⟩) p p] w' fun e w'' => ∃ v', e = .returned v' ∧ w''.ownsRow w'.heap.size 3 1 v' p ((o.take p).map (Value.int .i64)) ∧ Below w'.heap.size w' w'' by
              have := specOwn (o.take p) _ w' wq.heap.size (LQ.below hb) hb.size (by rw [hpl]; omega)
              rwa [hpl] at this)
            have HS0 := Lib.hid (fun w' (hb : Below wq.heap.size wq w') => (⟨hb, cellOf hb (by omega) hcq⟩ : Below wq.heap.size wq w' ∧ w'.cell? ⟨b, off + p, none⟩ = some (.int .i64 x)))
            have KA : Below wq.heap.size wq wq.drew := (Below.refl _ _).drew
            have KB : Below wq.heap.size wq (wq.alloc (.cells #[.int .i64 x] 3)).drew := ((Below.refl _ _).alloc (Nat.le_refl _) _).drew
            have bB : Bx (wq.alloc (.cells #[.int .i64 x] 3)).drew wq.heap.size [.int .i64 x] := Bx.new wq [.int .i64 x] 3
            have hi2 : (0 : Int) ≤ (p : Int) := by omega
            have hi3 : (p : Int) ≤ (p : Int) := by omega
            have hi4 : (p : Int) ≤ (p : Int) := by omega
            have hi5 : (p : Int) ≤ (p : Int) := by omega
            have hcap1 : p + 1 + (p - p) ≤ maxLen := by unfold maxLen; omega
            have hcap2 : (p + 1 + (p - p)) * 8 ≤ 140737488355328 := by omega
            have hcap3 : p + 1 ≤ maxLen := by unfold maxLen; omega
            have hcap4 : (p + 1) * 8 ≤ 140737488355328 := by omega
            have HPK := Lib.hid (show p + 1 + (p - p) = p + 1 by omega)
            clear SQ LQ hrowq hcq hpl hWq

            go_wp2
            go_region_held3 (fun w' => Below wq.heap.size wq w' ∧ w'.cell? ⟨b, off + p, none⟩ = some (.int .i64 x))
              (first
                | exact HS0.out _ KA
                | exact HS0.out _ KB
                | exact HS0.out _ B6
                | exact HS0.out _ B5
                | exact HS0.out _ B4
                | exact HS0.out _ (B4.alloc B4.size _))
              (first
                | (go_at_call 163; (with_reducible refine (HOW.out wq.drew KA).mono ?_); rintro e w4 ⟨v4, rfl, r4, hb4⟩; have B4 : Below wq.heap.size wq w4 := KA.trans hb4; have z4 := B4.size; have bn := Bx.new w4 [.int .i64 x] 3)
                | (go_at_call 163; (with_reducible refine (HOW.out (wq.alloc (.cells #[.int .i64 x] 3)).drew KB).mono ?_); rintro e w4 ⟨v4, rfl, r4', hb4⟩; have B4 : Below wq.heap.size wq w4 := KB.trans (hb4.mono KB.size); have z4 := B4.size; have bn := bB.below hb4; have r4 := Go.Joins.ownsRow_le r4' KB.size)
                | (refine step_append_srcV (w4.alloc (.cells #[.int .i64 x] 3)) (by first | rfl | kernel_rfl) _ _ _ (by rfl) wq.heap.size 3 ti (.int .i64 0) 8 Try.underlying43 hi hz0 hz1 hz2 rfl v4 p ((o.take p).map (Value.int .i64)) (by rfl) (r4.alloc _) _ 1 [.int .i64 x] (by rfl) (src_boxV bn rfl) hcap3 hcap4 (by first | omega | (simp; done) | (simp; omega)) ?_; intro v5 w5 r5 hg5 hat5; have B5 : Below wq.heap.size wq w5 := Below.grown (B4.alloc B4.size _) hg5 (by first | omega | (simp; done) | (simp; omega)) (fun q hq => (r4.lt q hq).1); have z5 := B5.size; clear hg5 hat5)
                | (refine step_append_srcV (w4) (by first | rfl | kernel_rfl) _ _ _ (by rfl) wq.heap.size 3 ti (.int .i64 0) 8 Try.underlying43 hi hz0 hz1 hz2 rfl v4 p ((o.take p).map (Value.int .i64)) (by rfl) (r4) _ 1 [.int .i64 x] (by rfl) (src_boxV bn rfl) hcap3 hcap4 (by first | omega | (simp; done) | (simp; omega)) ?_; intro v5 w5 r5 hg5 hat5; have B5 : Below wq.heap.size wq w5 := Below.grown B4 hg5 (by first | omega | (simp; done) | (simp; omega)) (fun q hq => (r4.lt q hq).1); have z5 := B5.size; clear hg5 hat5)
                | (refine step_append_srcV (w5) (by first | rfl | kernel_rfl) _ _ _ (by rfl) wq.heap.size 3 ti (.int .i64 0) 8 Try.underlying43 hi hz0 hz1 hz2 rfl v5 (p + 1) ((o.take p).map (Value.int .i64) ++ [.int .i64 x]) (by rfl) (r5) _ (p - p) ((o.drop p).map (Value.int .i64)) (by rfl) (HSQ.out _ B5) hcap1 hcap2 (by first | omega | (simp; done) | (simp; omega)) ?_; intro v6 w6 r6 hg6 hat6; have B6 : Below wq.heap.size wq w6 := Below.grown B5 hg6 (by first | omega | (simp; done) | (simp; omega)) (fun q hq => (r5.lt q hq).1); have z6 := B6.size; clear hg6 hat6))
            all_goals
              have r7 := Go.Joins.ownsRow_le r6 hszq
              rw [ins_eq, HPK.out] at r7
              have bl7 := hblq.trans (B6.mono hszq)
              obtain ⟨g7, c7, rfl, hc71, hc72, -, -⟩ := row_someI r7 (by omega)
              unfold maxLen at hc72
              clear r6 r5 r4 bn B6 B5 B4 bB KA KB hb4
              go_wp2
              go_roundw
              case rel => exact ⟨p + 1, g7, c7, _, by omega, by go_num, rfl, hc71, by omega, HP.out, r7, bl7⟩
              case measure => simp [intOf]; omega
          · go_wp2
            go_quiet (fail)
            clear s1
            go_wp2
            have HP := Lib.hid (show SrI xs (k + 1) (o.take p ++ x :: o.drop p) from HS.out.step HX.out (by rw [HO.out]; exact hp) HQ.out HD.out)
            generalize hWq : (wo.drewN nd).drewN nq = wq at *
            have hblq : Below w.heap.size w wq := by rw [← hWq]; exact drewN_b (drewN_b hbl _) _
            have hrowq : wq.ownsRow w.heap.size 3 1 (.slice (some ⟨g, 0, none⟩) k c) k (o.map (Value.int .i64)) := by rw [← hWq]; exact row_drewN (row_drewN HR.out _) _
            have hcq : wq.cell? ⟨b, off + k, none⟩ = some (.int .i64 x) := by rw [← hWq]; exact hcx'
            have hszq := hblq.size
            have hpl : (o.take p).length = p := by rw [List.length_take, HO.out]; omega
            have LQ : Lst (Value.int .i64) wq wq.heap.size (.slice (some ⟨g, 0, none⟩) p c) (o.take p) := by
              have h1 : Lst (Value.int .i64) wq wq.heap.size (.slice (some ⟨g, 0, none⟩) k c) o := (Own.of_row hrowq).lst
              have h2 := h1.sub 0 p (Nat.zero_le _) (by rw [HO.out]; exact hp)
              simpa using h2
            have SQ : ∀ w', Below wq.heap.size wq w' → Src w' (.slice (some ⟨g, p, none⟩) (k - p) (c - p)) (k - p) ((o.drop p).map (Value.int .i64)) := fun w' hb => by
              have h1 : Lst (Value.int .i64) w' wq.heap.size (.slice (some ⟨g, 0, none⟩) k c) o := (Own.of_row hrowq).lst.below hb
              have h2 := src_ints (h1.sub p k hp (by rw [HO.out]; exact Nat.le_refl _))
              rw [show (o.drop p).take (k - p) = o.drop p from List.take_of_length_le (by rw [List.length_drop, HO.out]; exact Nat.le_refl _), List.length_drop, HO.out, Nat.zero_add] at h2
              exact h2
            have HSQ := Lib.hid SQ
            have HOW := Lib.hid (fun w' (hb : Below wq.heap.size wq w') => show Calls Try.prog 163 #[.slice (some ⟨g, 0, none⟩) p c] w' fun e w'' => ∃ v', e = .returned v' ∧ w''.ownsRow w'.heap.size 3 1 v' p ((o.take p).map (Value.int .i64)) ∧ Below w'.heap.size w' w'' by
              have := specOwn (o.take p) _ w' wq.heap.size (LQ.below hb) hb.size (by rw [hpl]; omega)
              rwa [hpl] at this)
            have HS0 := Lib.hid (fun w' (hb : Below wq.heap.size wq w') => (⟨hb, cellOf hb (by omega) hcq⟩ : Below wq.heap.size wq w' ∧ w'.cell? ⟨b, off + k, none⟩ = some (.int .i64 x)))
            have KA : Below wq.heap.size wq wq.drew := (Below.refl _ _).drew
            have KB : Below wq.heap.size wq (wq.alloc (.cells #[.int .i64 x] 3)).drew := ((Below.refl _ _).alloc (Nat.le_refl _) _).drew
            have bB : Bx (wq.alloc (.cells #[.int .i64 x] 3)).drew wq.heap.size [.int .i64 x] := Bx.new wq [.int .i64 x] 3
            have hi2 : (0 : Int) ≤ (p : Int) := by omega
            have hi3 : (p : Int) ≤ (k : Int) := by omega
            have hi4 : (p : Int) ≤ (c : Int) := by omega
            have hi5 : (k : Int) ≤ (c : Int) := by omega
            have hcap1 : p + 1 + (k - p) ≤ maxLen := by unfold maxLen; omega
            have hcap2 : (p + 1 + (k - p)) * 8 ≤ 140737488355328 := by omega
            have hcap3 : p + 1 ≤ maxLen := by unfold maxLen; omega
            have hcap4 : (p + 1) * 8 ≤ 140737488355328 := by omega
            have HPK := Lib.hid (show p + 1 + (k - p) = k + 1 by omega)
            clear SQ LQ hrowq hcq hpl hWq
            have hcp : ¬ c = p := hpc
            go_wp2
            go_region_held3 (fun w' => Below wq.heap.size wq w' ∧ w'.cell? ⟨b, off + k, none⟩ = some (.int .i64 x))
              (first
                | exact HS0.out _ KA
                | exact HS0.out _ KB
                | exact HS0.out _ B6
                | exact HS0.out _ B5
                | exact HS0.out _ B4
                | exact HS0.out _ (B4.alloc B4.size _))
              (first
                | (go_at_call 163; (with_reducible refine (HOW.out wq.drew KA).mono ?_); rintro e w4 ⟨v4, rfl, r4, hb4⟩; have B4 : Below wq.heap.size wq w4 := KA.trans hb4; have z4 := B4.size; have bn := Bx.new w4 [.int .i64 x] 3)
                | (go_at_call 163; (with_reducible refine (HOW.out (wq.alloc (.cells #[.int .i64 x] 3)).drew KB).mono ?_); rintro e w4 ⟨v4, rfl, r4', hb4⟩; have B4 : Below wq.heap.size wq w4 := KB.trans (hb4.mono KB.size); have z4 := B4.size; have bn := bB.below hb4; have r4 := Go.Joins.ownsRow_le r4' KB.size)
                | (refine step_append_srcV (w4.alloc (.cells #[.int .i64 x] 3)) (by first | rfl | kernel_rfl) _ _ _ (by rfl) wq.heap.size 3 ti (.int .i64 0) 8 Try.underlying43 hi hz0 hz1 hz2 rfl v4 p ((o.take p).map (Value.int .i64)) (by rfl) (r4.alloc _) _ 1 [.int .i64 x] (by rfl) (src_boxV bn rfl) hcap3 hcap4 (by first | omega | (simp; done) | (simp; omega)) ?_; intro v5 w5 r5 hg5 hat5; have B5 : Below wq.heap.size wq w5 := Below.grown (B4.alloc B4.size _) hg5 (by first | omega | (simp; done) | (simp; omega)) (fun q hq => (r4.lt q hq).1); have z5 := B5.size; clear hg5 hat5)
                | (refine step_append_srcV (w4) (by first | rfl | kernel_rfl) _ _ _ (by rfl) wq.heap.size 3 ti (.int .i64 0) 8 Try.underlying43 hi hz0 hz1 hz2 rfl v4 p ((o.take p).map (Value.int .i64)) (by rfl) (r4) _ 1 [.int .i64 x] (by rfl) (src_boxV bn rfl) hcap3 hcap4 (by first | omega | (simp; done) | (simp; omega)) ?_; intro v5 w5 r5 hg5 hat5; have B5 : Below wq.heap.size wq w5 := Below.grown B4 hg5 (by first | omega | (simp; done) | (simp; omega)) (fun q hq => (r4.lt q hq).1); have z5 := B5.size; clear hg5 hat5)
                | (refine step_append_srcV (w5) (by first | rfl | kernel_rfl) _ _ _ (by rfl) wq.heap.size 3 ti (.int .i64 0) 8 Try.underlying43 hi hz0 hz1 hz2 rfl v5 (p + 1) ((o.take p).map (Value.int .i64) ++ [.int .i64 x]) (by rfl) (r5) _ (k - p) ((o.drop p).map (Value.int .i64)) (by rfl) (HSQ.out _ B5) hcap1 hcap2 (by first | omega | (simp; done) | (simp; omega)) ?_; intro v6 w6 r6 hg6 hat6; have B6 : Below wq.heap.size wq w6 := Below.grown B5 hg6 (by first | omega | (simp; done) | (simp; omega)) (fun q hq => (r5.lt q hq).1); have z6 := B6.size; clear hg6 hat6))
            all_goals
              have r7 := Go.Joins.ownsRow_le r6 hszq
              rw [ins_eq, HPK.out] at r7
              have bl7 := hblq.trans (B6.mono hszq)
              obtain ⟨g7, c7, rfl, hc71, hc72, -, -⟩ := row_someI r7 (by omega)
              unfold maxLen at hc72
              clear r6 r5 r4 bn B6 B5 B4 bB KA KB hb4
              go_wp2
              go_roundw
              case rel => exact ⟨k + 1, g7, c7, _, by omega, by go_num, rfl, hc71, by omega, HP.out, r7, bl7⟩
              case measure => simp [intOf]; omega

end Go.Proofs.Ytklilfbokpljkaa
