/- Integer filters: the program's moving sums. -/
import Derived.Test.YtklilfbokpljkaaFkB
import Derived.Test.YtklilfbokpljkaaRnd
import Derived.Test.YtklilfbokpljkaaPkN0
namespace Go.Proofs.Ytklilfbokpljkaa
open Go.ChangeShapes Go.WideShapes Go.ChangeAt Go.RowKit Go.ChangeMaps Go.Shelf
set_option linter.unusedSimpArgs false
set_option linter.unusedVariables false

attribute [local go_sem] Oper.semAt_some

theorem fin_up {n : Nat} (f : Nat → Int) : (List.finRange n).map (fun i => f i.1) = up f n := by
  apply List.ext_getElem
  · simp [up]
  · intro i h1 h2
    simp [up]

set_option maxRecDepth 100000 in
set_option maxHeartbeats 2000000 in
theorem implMS (xs : List Int) (v : Value) (n : Int) (w : World) (B : Nat) (h : Lst (Value.int .i64) w B v xs) (hB : B ≤ w.heap.size) (hn : xs.length ≤ 1048576) (_ : I64 n) :
    Calls Try.prog 57 #[v, .int .i64 n] w fun e w' => ∃ v', e = .returned (.tuple #[v', .bool (okA xs n 1 10)]) ∧ Own (Value.int .i64) w' w.heap.size w'.heap.size v' (resMS xs n) ∧ Below w.heap.size w w' := by
  have hb1 : Below w.heap.size w (w.alloc (.cells #[.int .i64 n] 3)) := (Below.refl _ _).alloc (Nat.le_refl _) _
  have hz1w : w.heap.size ≤ (w.alloc (.cells #[.int .i64 n] 3)).heap.size := by simp
  cases hk : okL xs with
  | false =>
    have e1 : okA xs n 1 10 = false := by unfold okA; rw [hk]; rfl
    have e2 : resMS xs n = [] := by unfold resMS; rw [e1]; rfl
    have C := Lib.hid (implAreSB xs v w B false h hk)
    rw [e1, e2]
    obtain ⟨ao, cap, rfl⟩ := h.form
    clear e1 e2 hk
    go_enter Try.func57, Try.ntmps57
    go_wp2_with fail
    refine C.out.mono ?_
    rintro e w1 ⟨rfl, hw1⟩
    obtain rfl : w = w1 := hw1.symm
    go_wp2
    go_ret2
    exact ⟨_, rfl, own_empty _ _ (Nat.le_refl _), (Below.refl _ _).alloc (Nat.le_refl _) _⟩
  | true =>
  cases hr : inR n 1 10 with
  | false =>
    have e1 : okA xs n 1 10 = false := by unfold okA; rw [hr, Bool.and_false]
    have e2 : resMS xs n = [] := by unfold resMS; rw [e1]; rfl
    have C := Lib.hid (implAreSB xs v w B true h hk)
    have C2 := Lib.hid (implIn 1 10 n w 3 false hr)
    rw [e1, e2]
    obtain ⟨ao, cap, rfl⟩ := h.form
    clear e1 e2 hk hr
    go_enter Try.func57, Try.ntmps57
    go_wp2_with fail
    refine C.out.mono ?_
    rintro e w1 ⟨rfl, hw1⟩
    obtain rfl : w = w1 := hw1.symm
    go_wp2_with fail
    refine C2.out.mono ?_
    rintro e w2 ⟨rfl, rfl⟩
    go_wp2
    go_ret2
    exact ⟨_, rfl, own_empty1 _ _ _ (by omega), hb1.alloc hz1w _⟩
  | true =>
    obtain ⟨f, hf⟩ : ∃ f : Nat → Int, f = fMS xs n.toNat := ⟨_, rfl⟩
    have e1 : okA xs n 1 10 = true := by unfold okA; rw [hk, hr]; rfl
    have e2 : resMS xs n = up f (xs.length) := by unfold resMS; rw [e1, hf]; rfl
    have C := Lib.hid (implAreSB xs v w B true h hk)
    have C2 := Lib.hid (implIn 1 10 n w 3 true hr)
    obtain ⟨n1, n2⟩ := inR_yes hr
    obtain ⟨gx, gn⟩ := okL_yes hk
    rw [e1, e2]
    obtain ⟨ti, hi, hz0, hz1, hz2⟩ := info_parts infoInt
    have HL := Lib.hid h
    obtain ⟨ao, cap, rfl, hcap, hmax, hnn, hc⟩ := h
    unfold maxLen at hmax
    have HF := Lib.hid hf
    have HX := Lib.hid gx
    obtain ⟨bk, off, hao⟩ : ∃ bk off, 0 < xs.length → ao = some ⟨bk, off, none⟩ := by
      rcases Nat.eq_zero_or_pos xs.length with q | q
      · exact ⟨0, 0, fun p => by omega⟩
      · obtain ⟨x, hx⟩ := get_of_lt q
        obtain ⟨b, o, e, _, _⟩ := hc 0 x hx
        exact ⟨b, o, fun _ => e⟩
    have HAO := Lib.hid hao
    obtain ⟨m, hm⟩ : ∃ m : Nat, (m : Int) = n - 1 := ⟨(n - 1).toNat, by omega⟩
    have HM := Lib.hid hm
    have HM2 := Lib.hid (show n.toNat - 1 = m by omega)
    have hm9 : m ≤ 9 := by omega
    clear e1 e2 hk hr gx hc hnn hf hm hao
    refine (callsIn_wide (n := 6)).1 ?_
    refine callsIn_of_wp_marks Try.func57 rfl trivial ?_ rfl
    simp only [Try.ntmps57, List.size_toArray, List.length_cons, List.length_nil, Nat.reduceAdd, Nat.reduceSub, Array.replicate_succ, Array.replicate_zero, List.push_toArray, List.append_toArray, List.nil_append, List.cons_append]
    have t51 : Fence.wide.fn 125 := trivial
    have t53 : Fence.wide.fn 126 := trivial
    have t59 : Fence.wide.fn 109 := trivial
    gi_wp2_with (gi_at_call 125; refine (callsIn_wide.2 C.out).mono ?_; rintro e w1 ⟨rfl, hw1⟩; obtain rfl : w = w1 := hw1.symm)
    refine (callsIn_wide.2 C2.out).mono ?_
    rintro e w2 ⟨rfl, rfl⟩
    generalize w.alloc (.cells #[.int .i64 n] 3) = W1 at *
    gi_wp2_with (gi_at_call 126; refine (windows_in Fence.wide 5 trivial rfl _ _ _ _ _ _).mono ?_; rintro e w' ⟨rfl, rfl⟩)
    obtain ⟨w4, hw4⟩ : ∃ w4, (((((W1.alloc (.cells #[] 3)).alloc (.cells #[.slice (some ⟨W1.heap.size, 0, none⟩) 0 0] 43)).alloc (.cells #[.slice ao xs.length cap] 43)).alloc (.cells #[.int .i64 (n - 1)] 3)).alloc (.cells #[.int .i64 0] 3)) = w4 := ⟨_, rfl⟩
    have hz4 : w4.heap.size = W1.heap.size + 5 := by rw [← hw4]; simp
    have bO : Boxed w4 (W1.heap.size + 1) 43 (.slice (some ⟨W1.heap.size, 0, none⟩) 0 0) := by
      rw [← hw4]
      have := Boxed.new (W1.alloc (.cells #[] 3)) 43 (.slice (some ⟨W1.heap.size, 0, none⟩) 0 0)
      rw [World.size_alloc] at this
      exact ((this.alloc _).alloc _).alloc _
    have b1 : Boxed w4 (W1.heap.size + 1 + 1) 43 (.slice ao xs.length cap) := by
      rw [← hw4]
      have := Boxed.new ((W1.alloc (.cells #[] 3)).alloc (.cells #[.slice (some ⟨W1.heap.size, 0, none⟩) 0 0] 43)) 43 (.slice ao xs.length cap)
      rw [World.size_alloc, World.size_alloc] at this
      exact (this.alloc _).alloc _
    have b2 : Boxed w4 (W1.heap.size + 1 + 1 + 1) 3 (.int .i64 (n - 1)) := by
      rw [← hw4]
      have := Boxed.new (((W1.alloc (.cells #[] 3)).alloc (.cells #[.slice (some ⟨W1.heap.size, 0, none⟩) 0 0] 43)).alloc (.cells #[.slice ao xs.length cap] 43)) 3 (.int .i64 (n - 1))
      rw [World.size_alloc, World.size_alloc, World.size_alloc] at this
      exact this.alloc _
    have b3 : Boxed w4 (W1.heap.size + 1 + 1 + 1 + 1) 3 (.int .i64 0) := by
      rw [← hw4]
      have := Boxed.new ((((W1.alloc (.cells #[] 3)).alloc (.cells #[.slice (some ⟨W1.heap.size, 0, none⟩) 0 0] 43)).alloc (.cells #[.slice ao xs.length cap] 43)).alloc (.cells #[.int .i64 (n - 1)] 3)) 3 (.int .i64 0)
      rw [World.size_alloc, World.size_alloc, World.size_alloc, World.size_alloc] at this
      exact this
    rw [← HM.out] at b2
    have hR4 : w4.ownsRow w.heap.size 3 1 (.slice (some ⟨W1.heap.size, 0, none⟩) 0 0) 0 [] := by
      rw [← hw4]
      exact (((((World.ownsRow_made W1 #[] 0 hz1w (by simp [maxLen]) rfl).alloc _).alloc _).alloc _).alloc _)
    have hB4 : Below w.heap.size w w4 := by
      rw [← hw4]
      exact (((((hb1.alloc hz1w _).alloc (by simp; omega) _).alloc (by simp; omega) _).alloc (by simp; omega) _).alloc (by simp; omega) _)
    rw [hw4]
    clear hw4 hb1
    refine wpIn_rangeFunc_ownG rfl (by omega) (gf := 165) (lb := #[.pointer (some ⟨W1.heap.size + 1 + 1, 0, none⟩), .pointer (some ⟨W1.heap.size + 1 + 1 + 1, 0, none⟩), .pointer (some ⟨W1.heap.size + 1 + 1 + 1 + 1, 0, none⟩)]) rfl trivial (enters_of Try.func165 (by kernel_rfl) rfl)
      (windows_stops Fence.wide (6 - 1) trivial rfl (by omega) (W1.heap.size + 1 + 1) (W1.heap.size + 1 + 1 + 1) (W1.heap.size + 1 + 1 + 1 + 1) ao xs.length cap m 0 bk off HAO.out hcap hn (by omega) (by omega) w4 (by omega) (by omega) (by omega) b1.cell b2.cell b3.cell)
      (fun h k => ⟨k.1.trans h.1, k.2.1.trans h.2.1, k.2.2.trans h.2.2⟩)
      (fun W l o o' hl hlo _ _ => ⟨World.cell?_of_block (World.putObj_heap_other (by show W1.heap.size + 1 + 1 ≠ l; omega)), World.cell?_of_block (World.putObj_heap_other (by show W1.heap.size + 1 + 1 + 1 ≠ l; omega)), World.cell?_of_block (World.putObj_heap_other (by show W1.heap.size + 1 + 1 + 1 + 1 ≠ l; omega))⟩)
      (Below.refl _ _) (fun _ => rfl)
      (fun pre W => ((∃ v, Boxed W (W1.heap.size + 1) 43 v ∧ W.ownsRow w.heap.size 3 1 v pre.length ((pre.map fun i => f i.1).map (Value.int .i64)) ∧ (∃ g, v.ownBlock = some g ∧ (g = W1.heap.size ∨ W1.heap.size + 5 ≤ g))) ∧ Below w.heap.size w W) ∧ (Boxed W (W1.heap.size + 1 + 1) 43 (.slice ao xs.length cap) ∧ Boxed W (W1.heap.size + 1 + 1 + 1) 3 (.int .i64 m) ∧ Boxed W (W1.heap.size + 1 + 1 + 1 + 1) 3 (.int .i64 0)))
      (fun _ _ _ => False)
      (OwnFrom.and (OwnFrom.and (Own.from (holdsRow_own w.heap.size (W1.heap.size + 1) 43 3 1 (fun pre : List (Fin xs.length) => pre.length) (fun pre => (pre.map fun i => f i.1).map (Value.int .i64)) (fun _ v => ∃ g, v.ownBlock = some g ∧ (g = W1.heap.size ∨ W1.heap.size + 5 ≤ g))) _) (ownFrom_below (Nat.le_refl _) (by omega)))
        (OwnFrom.and (Own.from (boxed_own _ _ _) _) (OwnFrom.and (Own.from (boxed_own _ _ _) _) (Own.from (boxed_own _ _ _) _))))
      (fun _ _ _ _ _ hs _ _ => hs)
      ⟨⟨⟨_, bO, hR4, _, rfl, Or.inl rfl⟩, hB4⟩, b1, b2, b3⟩
      (fun x => { tmps := #[.slice ao xs.length cap, .int .i64 n, undef, undef, .slice none 0 0, .bool false, .pointer (some ⟨W1.heap.size + 1, 0, none⟩), winV bk off xs.length cap m 0 x.1, .slice ao xs.length cap, .bool true, .bool false, .bool false, .int .i64 n, .slice (some ⟨w.heap.size, 0, none⟩) 1 1, .bool true, .bool false, .bool false, undef,
        .slice (some ⟨W1.heap.size, 0, none⟩) 0 0, .slice ao xs.length cap, .int .i64 n, .int .i64 (n - 1), .func (.func 165) #[] #[.pointer (some ⟨W1.heap.size + 1 + 1, 0, none⟩), .pointer (some ⟨W1.heap.size + 1 + 1 + 1, 0, none⟩), .pointer (some ⟨W1.heap.size + 1 + 1 + 1 + 1, 0, none⟩)], winV bk off xs.length cap m 0 x.1, undef, undef, undef, undef, undef, undef], defers := [] }) ?assign ?body ?done ?stop
    case assign =>
      intro l x W K hK
      gi_wp2
      exact hK
    case body =>
      rintro l pre x W ⟨⟨⟨v, hv, hrow, g, hg, hg4⟩, hBW⟩, q1, q2, q3⟩ hlt
      have hc := hv.cell
      have hlt3 := q3.lt
      have hsW := hBW.size
      have hx1 : 0 < xs.length := by have := x.2; omega
      have hls : Lst (Value.int .i64) W B (.slice (some ⟨bk, off, none⟩) xs.length cap) xs := by have := HL.out.below (hBW.mono hB); rwa [HAO.out hx1] at this
      have hlw := win_lst (bf := m) (af := 0) hls x.2
      have CT := implTotal (win xs m 0 x.1) _ W.drew B (hlw.below (Below.refl _ _).drew) (by rw [win_len]; omega) (fun y hy => HX.out y (win_sub hy))
      have HE := Lib.hid (show f x.1 = lsum (win xs m 0 x.1) by rw [HF.out]; unfold fMS; rw [HM2.out])
      rw [← HE.out] at CT
      have HCT := Lib.hid CT
      have t60 : Fence.wide.fn 136 := trivial
      have hd : 1 ≤ 6 - 1 - 1 := by omega
      have hmx : Try.prog.follows .mixedOrders = true := by kernel_rfl
      clear CT hls hlw
      generalize winV bk off xs.length cap m 0 x.1 = wv at *
      gi_wp2
      have hrowd : W.drew.ownsRow w.heap.size 3 1 v pre.length ((pre.map fun i => f i.1).map (Value.int .i64)) := hrow
      have hvd : Boxed W.drew (W1.heap.size + 1) 43 v := hv
      have bnew := Bx.new W.drew [.int .i64 (f x.1)] 3
      have hcal := (hv.alloc (.cells #[.int .i64 (f x.1)] 3)).cell
      have hcp1 : pre.length + 1 ≤ maxLen := by unfold maxLen; omega
      have hcp2 : (pre.length + 1) * 8 ≤ 140737488355328 := by omega
      refine wpIn_region_round hmx (by kernel_rfl) ?_
      refine wpAnyIn_take (i := 1) (v := wv) rfl rfl (by kernel_rfl) (by kernel_rfl) (by kernel_rfl) (fun _ _ _ h => h) ⟨Or.inl ⟨by rfl, (by intro w; go_simp; try with_reducible rfl)⟩, fun _ => rfl⟩ ?_
      refine wpAnyIn_ready (rs := [0, 2]) (by kernel_rfl) (by simp) ?_
      refine AllReadyIn.cons rfl (fun K hK => ?_) ?_
      · go_simp
        refine hK _ _ ?_
        clear hK K
        refine wpAnyIn_ready (rs := [2]) (by kernel_rfl) (by simp) ?_
        refine AllReadyIn.cons rfl (fun K hK => ?_) ?_
        · go_simp
          refine (callsIn_wide.2 HCT.out).mono ?_
          rintro e w' ⟨rfl, hw'⟩
          obtain rfl := hw'.symm
          dsimp only
          refine hK _ _ ?_
          clear hK K hw'
          refine wpAnyIn_ready (rs := [3]) (by kernel_rfl) (by simp) ?_
          refine AllReadyIn.cons rfl (fun K hK => ?_) ?_
          · go_simp
            refine hK _ _ ?_
            clear hK K
            refine wpAnyIn_ready (rs := [4]) (by kernel_rfl) (by simp) ?_
            refine AllReadyIn.cons rfl (fun K hK => ?_) ?_
            · refine stepIn_append_src (W.drew.alloc (.cells #[.int .i64 (f x.1)] 3)) (by first | rfl | kernel_rfl) _ _ _ (by rfl) w.heap.size 3 ti (.int .i64 0) 8 Try.underlying43 hi hz0 hz1 hz2 rfl v pre.length ((pre.map fun i => f i.1).map (Value.int .i64)) (by rfl) (hrowd.alloc _) _ 1 [.int .i64 (f x.1)] (by rfl) (src_boxV bnew rfl) hcp1 hcp2 (by simp; omega) ?_
              intro v5 w5 r5 hg5 hat5
              refine hK _ _ ?_
              clear hK K
              obtain ⟨g5, cap5, rfl⟩ := ownsRow_succ r5
              obtain ⟨hv1, hv2, hr2, hk2, hbl2⟩ := hvd.appended (by decide) hrowd (by exact hsW) (by omega) r5 hg5
              have hc1 := hv1.cell
              have hf1 := hv1.frozen
              refine wpAnyIn_ready (rs := [5]) (by kernel_rfl) (by simp) ?_
              refine AllReadyIn.cons rfl (fun K hK => ?_) ?_
              · go_simp
                refine hK _ _ ?_
                clear hK K
                refine wpAnyIn_done (by kernel_rfl) ?_ _
                gi_wp2
                have hne1 : some (W1.heap.size + 1 + 1) ≠ v.ownBlock := by rw [hg]; intro e; have := Option.some.inj e; omega
                have hne2 : some (W1.heap.size + 1 + 1 + 1) ≠ v.ownBlock := by rw [hg]; intro e; have := Option.some.inj e; omega
                have hne3 : some (W1.heap.size + 1 + 1 + 1 + 1) ≠ v.ownBlock := by rw [hg]; intro e; have := Option.some.inj e; omega
                have q1d : Boxed W.drew (W1.heap.size + 1 + 1) 43 (.slice ao xs.length cap) := q1
                have q2d : Boxed W.drew (W1.heap.size + 1 + 1 + 1) 3 (.int .i64 m) := q2
                have q3d : Boxed W.drew (W1.heap.size + 1 + 1 + 1 + 1) 3 (.int .i64 0) := q3
                have e1 := ((q1d.alloc _).kept hg5 hne1).other (B' := W1.heap.size + 1) (by omega) (.slice (some ⟨g5, 0, none⟩) (pre.length + 1) cap5)
                have e2 := ((q2d.alloc _).kept hg5 hne2).other (B' := W1.heap.size + 1) (by omega) (.slice (some ⟨g5, 0, none⟩) (pre.length + 1) cap5)
                have e3 := ((q3d.alloc _).kept hg5 hne3).other (B' := W1.heap.size + 1) (by omega) (.slice (some ⟨g5, 0, none⟩) (pre.length + 1) cap5)
                have hg' : g5 = W1.heap.size ∨ W1.heap.size + 5 ≤ g5 := by
                  rcases hat5 with h | h
                  · rw [hg] at h
                    have h2 : some g5 = some g := h
                    have := Option.some.inj h2
                    omega
                  · have h2 : some g5 = some (W.drew.alloc (.cells #[.int .i64 (f x.1)] 3)).heap.size := h
                    have := Option.some.inj h2
                    rw [World.size_alloc] at this
                    have h9 : W.drew.heap.size = W.heap.size := rfl
                    omega
                refine ⟨((KeepsOthers.drew W).trans hk2).from _, ⟨e1.cell.trans q1.cell.symm, e2.cell.trans q2.cell.symm, e3.cell.trans q3.cell.symm⟩, ⟨⟨_, hv2, by simpa using hr2, g5, rfl, hg'⟩, hBW.trans ((Below.refl _ W).drew.trans hbl2)⟩, e1, e2, e3⟩
              exact AllReadyIn.nil
            exact AllReadyIn.nil
          exact AllReadyIn.nil
        exact AllReadyIn.nil
      refine AllReadyIn.cons rfl (fun K hK => ?_) ?_
      · go_simp
        refine (callsIn_wide.2 HCT.out).mono ?_
        rintro e w' ⟨rfl, hw'⟩
        obtain rfl := hw'.symm
        dsimp only
        refine hK _ _ ?_
        clear hK K hw'
        refine wpAnyIn_ready (rs := [0, 3]) (by kernel_rfl) (by simp) ?_
        refine AllReadyIn.cons rfl (fun K hK => ?_) ?_
        · go_simp
          refine hK _ _ ?_
          clear hK K
          refine wpAnyIn_ready (rs := [3]) (by kernel_rfl) (by simp) ?_
          refine AllReadyIn.cons rfl (fun K hK => ?_) ?_
          · go_simp
            refine hK _ _ ?_
            clear hK K
            refine wpAnyIn_ready (rs := [4]) (by kernel_rfl) (by simp) ?_
            refine AllReadyIn.cons rfl (fun K hK => ?_) ?_
            · refine stepIn_append_src (W.drew.alloc (.cells #[.int .i64 (f x.1)] 3)) (by first | rfl | kernel_rfl) _ _ _ (by rfl) w.heap.size 3 ti (.int .i64 0) 8 Try.underlying43 hi hz0 hz1 hz2 rfl v pre.length ((pre.map fun i => f i.1).map (Value.int .i64)) (by rfl) (hrowd.alloc _) _ 1 [.int .i64 (f x.1)] (by rfl) (src_boxV bnew rfl) hcp1 hcp2 (by simp; omega) ?_
              intro v5 w5 r5 hg5 hat5
              refine hK _ _ ?_
              clear hK K
              obtain ⟨g5, cap5, rfl⟩ := ownsRow_succ r5
              obtain ⟨hv1, hv2, hr2, hk2, hbl2⟩ := hvd.appended (by decide) hrowd (by exact hsW) (by omega) r5 hg5
              have hc1 := hv1.cell
              have hf1 := hv1.frozen
              refine wpAnyIn_ready (rs := [5]) (by kernel_rfl) (by simp) ?_
              refine AllReadyIn.cons rfl (fun K hK => ?_) ?_
              · go_simp
                refine hK _ _ ?_
                clear hK K
                refine wpAnyIn_done (by kernel_rfl) ?_ _
                gi_wp2
                have hne1 : some (W1.heap.size + 1 + 1) ≠ v.ownBlock := by rw [hg]; intro e; have := Option.some.inj e; omega
                have hne2 : some (W1.heap.size + 1 + 1 + 1) ≠ v.ownBlock := by rw [hg]; intro e; have := Option.some.inj e; omega
                have hne3 : some (W1.heap.size + 1 + 1 + 1 + 1) ≠ v.ownBlock := by rw [hg]; intro e; have := Option.some.inj e; omega
                have q1d : Boxed W.drew (W1.heap.size + 1 + 1) 43 (.slice ao xs.length cap) := q1
                have q2d : Boxed W.drew (W1.heap.size + 1 + 1 + 1) 3 (.int .i64 m) := q2
                have q3d : Boxed W.drew (W1.heap.size + 1 + 1 + 1 + 1) 3 (.int .i64 0) := q3
                have e1 := ((q1d.alloc _).kept hg5 hne1).other (B' := W1.heap.size + 1) (by omega) (.slice (some ⟨g5, 0, none⟩) (pre.length + 1) cap5)
                have e2 := ((q2d.alloc _).kept hg5 hne2).other (B' := W1.heap.size + 1) (by omega) (.slice (some ⟨g5, 0, none⟩) (pre.length + 1) cap5)
                have e3 := ((q3d.alloc _).kept hg5 hne3).other (B' := W1.heap.size + 1) (by omega) (.slice (some ⟨g5, 0, none⟩) (pre.length + 1) cap5)
                have hg' : g5 = W1.heap.size ∨ W1.heap.size + 5 ≤ g5 := by
                  rcases hat5 with h | h
                  · rw [hg] at h
                    have h2 : some g5 = some g := h
                    have := Option.some.inj h2
                    omega
                  · have h2 : some g5 = some (W.drew.alloc (.cells #[.int .i64 (f x.1)] 3)).heap.size := h
                    have := Option.some.inj h2
                    rw [World.size_alloc] at this
                    have h9 : W.drew.heap.size = W.heap.size := rfl
                    omega
                refine ⟨((KeepsOthers.drew W).trans hk2).from _, ⟨e1.cell.trans q1.cell.symm, e2.cell.trans q2.cell.symm, e3.cell.trans q3.cell.symm⟩, ⟨⟨_, hv2, by simpa using hr2, g5, rfl, hg'⟩, hBW.trans ((Below.refl _ W).drew.trans hbl2)⟩, e1, e2, e3⟩
              exact AllReadyIn.nil
            exact AllReadyIn.nil
          exact AllReadyIn.nil
        refine AllReadyIn.cons rfl (fun K hK => ?_) ?_
        · go_simp
          refine hK _ _ ?_
          clear hK K
          refine wpAnyIn_ready (rs := [0]) (by kernel_rfl) (by simp) ?_
          refine AllReadyIn.cons rfl (fun K hK => ?_) ?_
          · go_simp
            refine hK _ _ ?_
            clear hK K
            refine wpAnyIn_ready (rs := [4]) (by kernel_rfl) (by simp) ?_
            refine AllReadyIn.cons rfl (fun K hK => ?_) ?_
            · refine stepIn_append_src (W.drew.alloc (.cells #[.int .i64 (f x.1)] 3)) (by first | rfl | kernel_rfl) _ _ _ (by rfl) w.heap.size 3 ti (.int .i64 0) 8 Try.underlying43 hi hz0 hz1 hz2 rfl v pre.length ((pre.map fun i => f i.1).map (Value.int .i64)) (by rfl) (hrowd.alloc _) _ 1 [.int .i64 (f x.1)] (by rfl) (src_boxV bnew rfl) hcp1 hcp2 (by simp; omega) ?_
              intro v5 w5 r5 hg5 hat5
              refine hK _ _ ?_
              clear hK K
              obtain ⟨g5, cap5, rfl⟩ := ownsRow_succ r5
              obtain ⟨hv1, hv2, hr2, hk2, hbl2⟩ := hvd.appended (by decide) hrowd (by exact hsW) (by omega) r5 hg5
              have hc1 := hv1.cell
              have hf1 := hv1.frozen
              refine wpAnyIn_ready (rs := [5]) (by kernel_rfl) (by simp) ?_
              refine AllReadyIn.cons rfl (fun K hK => ?_) ?_
              · go_simp
                refine hK _ _ ?_
                clear hK K
                refine wpAnyIn_done (by kernel_rfl) ?_ _
                gi_wp2
                have hne1 : some (W1.heap.size + 1 + 1) ≠ v.ownBlock := by rw [hg]; intro e; have := Option.some.inj e; omega
                have hne2 : some (W1.heap.size + 1 + 1 + 1) ≠ v.ownBlock := by rw [hg]; intro e; have := Option.some.inj e; omega
                have hne3 : some (W1.heap.size + 1 + 1 + 1 + 1) ≠ v.ownBlock := by rw [hg]; intro e; have := Option.some.inj e; omega
                have q1d : Boxed W.drew (W1.heap.size + 1 + 1) 43 (.slice ao xs.length cap) := q1
                have q2d : Boxed W.drew (W1.heap.size + 1 + 1 + 1) 3 (.int .i64 m) := q2
                have q3d : Boxed W.drew (W1.heap.size + 1 + 1 + 1 + 1) 3 (.int .i64 0) := q3
                have e1 := ((q1d.alloc _).kept hg5 hne1).other (B' := W1.heap.size + 1) (by omega) (.slice (some ⟨g5, 0, none⟩) (pre.length + 1) cap5)
                have e2 := ((q2d.alloc _).kept hg5 hne2).other (B' := W1.heap.size + 1) (by omega) (.slice (some ⟨g5, 0, none⟩) (pre.length + 1) cap5)
                have e3 := ((q3d.alloc _).kept hg5 hne3).other (B' := W1.heap.size + 1) (by omega) (.slice (some ⟨g5, 0, none⟩) (pre.length + 1) cap5)
                have hg' : g5 = W1.heap.size ∨ W1.heap.size + 5 ≤ g5 := by
                  rcases hat5 with h | h
                  · rw [hg] at h
                    have h2 : some g5 = some g := h
                    have := Option.some.inj h2
                    omega
                  · have h2 : some g5 = some (W.drew.alloc (.cells #[.int .i64 (f x.1)] 3)).heap.size := h
                    have := Option.some.inj h2
                    rw [World.size_alloc] at this
                    have h9 : W.drew.heap.size = W.heap.size := rfl
                    omega
                refine ⟨((KeepsOthers.drew W).trans hk2).from _, ⟨e1.cell.trans q1.cell.symm, e2.cell.trans q2.cell.symm, e3.cell.trans q3.cell.symm⟩, ⟨⟨_, hv2, by simpa using hr2, g5, rfl, hg'⟩, hBW.trans ((Below.refl _ W).drew.trans hbl2)⟩, e1, e2, e3⟩
              exact AllReadyIn.nil
            exact AllReadyIn.nil
          exact AllReadyIn.nil
        exact AllReadyIn.nil
      exact AllReadyIn.nil
    case done =>
      rintro D ys W hD rfl ⟨⟨⟨v, hv, hrow, _⟩, hB⟩, _, _⟩ hK
      have hc := hv.cell
      rw [fin_up] at hrow
      gi_wp2
      refine ⟨by simp, .inl ⟨_, _, rfl, run_takeDeferred hK, ?_⟩⟩
      exact ⟨_, results_tmp2 rfl _ _ _, v, rfl, Own.of_row (ownsRow_putObj hrow _ hK rfl), hB.trans (belowK_b (w := w) (Nat.le_refl _) W D _ _ (by omega) hK rfl rfl)⟩
    case stop =>
      rintro D c' pre W _ _ h _
      exact h.elim
end Go.Proofs.Ytklilfbokpljkaa
