/- Integer filters: the program's weighted sums. -/
import Derived.Test.YtklilfbokpljkaaFkC
import Derived.Test.YtklilfbokpljkaaFkS
import Derived.Test.YtklilfbokpljkaaFjH
namespace Go.Proofs.Ytklilfbokpljkaa
open Go.ChangeShapes Go.WideShapes Go.ChangeAt Go.RowKit Go.ChangeMaps Go.Shelf
set_option linter.unusedSimpArgs false
set_option linter.unusedVariables false

attribute [local go_sem] Oper.semAt_some

theorem keepsO_drewN (W : World) (n : Nat) : KeepsOthers W (W.drewN n) := ⟨Nat.le_refl _, fun _ _ h _ => h⟩

set_option maxRecDepth 100000 in
set_option maxHeartbeats 2000000 in
theorem implWg (xs : List Int) (v : Value) (ws : List Int) (u : Value) (w : World) (B : Nat) (h : Lst (Value.int .i64) w B v xs) (hu : Lst (Value.int .i64) w B u ws) (hB : B ≤ w.heap.size) (hn : xs.length ≤ 1048576) (hn2 : ws.length ≤ 1048576) :
    Calls Try.prog 52 #[v, u] w fun e w' => ∃ v', e = .returned (.tuple #[v', .bool (okWg xs ws)]) ∧ Own (Value.int .i64) w' w.heap.size w'.heap.size v' (resWg xs ws) ∧ Below w.heap.size w w' := by
  obtain ⟨Wb, hWb⟩ : ∃ Wb, w.alloc (.cells #[u] 43) = Wb := ⟨_, rfl⟩
  have hbb : Below w.heap.size w Wb := by rw [← hWb]; exact (Below.refl _ _).alloc (Nat.le_refl _) _
  have hzb : Wb.heap.size = w.heap.size + 1 := by rw [← hWb]; simp
  have hsb : w.heap.size ≤ Wb.heap.size := by omega
  have q0 : Boxed Wb w.heap.size 43 u := by rw [← hWb]; exact Boxed.new w 43 u
  have hcu := q0.cell
  have h1 := h.below (hbb.mono hB)
  have hu1 := hu.below (hbb.mono hB)
  cases hk : okL xs with
  | false =>
    have e1 : okWg xs ws = false := by unfold okWg; rw [hk]; rfl
    have e2 : resWg xs ws = [] := by unfold resWg; rw [e1]; rfl
    have C := Lib.hid (implAreSB xs v Wb B false h1 hk)
    rw [e1, e2]
    obtain ⟨ao, cap, rfl⟩ := h.form
    obtain ⟨au, cau, rfl⟩ := hu.form
    clear e1 e2 hk hzb
    go_enter Try.func52, Try.ntmps52
    go_wp2_with fail
    clear hWb
    refine C.out.mono ?_
    rintro e w1 ⟨rfl, hw1⟩
    obtain rfl : Wb = w1 := hw1.symm
    go_wp2
    go_ret2
    exact ⟨_, rfl, own_empty _ _ hsb, hbb.alloc hsb _⟩
  | true =>
  have CW := fun r hr => implAreWB ws u Wb B r hu1 (by omega) hn2 hr
  cases hr : okWs ws with
  | false =>
    have e1 : okWg xs ws = false := by unfold okWg; rw [hr, Bool.and_false]
    have e2 : resWg xs ws = [] := by unfold resWg; rw [e1]; rfl
    have C := Lib.hid (implAreSB xs v Wb B true h1 hk)
    have C2 := Lib.hid (CW false hr)
    rw [e1, e2]
    obtain ⟨ao, cap, rfl⟩ := h.form
    obtain ⟨au, cau, rfl⟩ := hu.form
    clear e1 e2 hk hr CW hzb
    go_enter Try.func52, Try.ntmps52
    go_wp2_with fail
    clear hWb
    refine C.out.mono ?_
    rintro e w1 ⟨rfl, hw1⟩
    obtain rfl : Wb = w1 := hw1.symm
    go_wp2_with fail
    refine C2.out.mono ?_
    rintro e w2 ⟨rfl, hb2⟩
    have hb3 : Below w.heap.size w w2 := hbb.trans (hb2.mono hsb)
    go_wp2
    go_ret2
    exact ⟨_, rfl, own_empty _ _ hb3.size, hb3.alloc hb3.size _⟩
  | true =>
    obtain ⟨f, hf⟩ : ∃ f : Nat → Int, f = fWg xs ws := ⟨_, rfl⟩
    have e1 : okWg xs ws = true := by unfold okWg; rw [hk, hr]; rfl
    have e2 : resWg xs ws = up f (xs.length) := by unfold resWg; rw [e1, hf]; rfl
    have C := Lib.hid (implAreSB xs v Wb B true h1 hk)
    have C2 := Lib.hid (CW true hr)
    obtain ⟨⟨gw1, gw2⟩, gw⟩ := okWs_yes hr
    obtain ⟨gx, gn⟩ := okL_yes hk
    rw [e1, e2]
    obtain ⟨ti, hi, hz0, hz1, hz2⟩ := info_parts infoInt
    have HL := Lib.hid h
    have HLU := Lib.hid hu
    obtain ⟨ao, cap, rfl, hcap, hmax, hnn, hc⟩ := h
    obtain ⟨au, cau, hvu, hcau, hmau, -, -⟩ := hu
    subst hvu
    unfold maxLen at hmax hmau
    have HF := Lib.hid hf
    have HX := Lib.hid gx
    have HW := Lib.hid gw
    obtain ⟨bk, off, hao⟩ : ∃ bk off, 0 < xs.length → ao = some ⟨bk, off, none⟩ := by
      rcases Nat.eq_zero_or_pos xs.length with q | q
      · exact ⟨0, 0, fun p => by omega⟩
      · obtain ⟨x, hx⟩ := get_of_lt q
        obtain ⟨b, o, e, _, _⟩ := hc 0 x hx
        exact ⟨b, o, fun _ => e⟩
    have HAO := Lib.hid hao
    obtain ⟨m, hm⟩ : ∃ m : Nat, (m : Int) = (ws.length : Int) - 1 := ⟨ws.length - 1, by omega⟩
    have HM := Lib.hid hm
    have HM2 := Lib.hid (show ws.length - 1 = m by omega)
    have hm9 : m ≤ 4 := by omega
    have Q0 := Lib.hid q0
    have HZB := Lib.hid hzb
    clear e1 e2 hk hr gx gw hc hnn hf hm hao CW q0 hzb h1 hu1
    refine (callsIn_wide (n := 6)).1 ?_
    refine callsIn_of_wp_marks Try.func52 rfl trivial ?_ rfl
    simp only [Try.ntmps52, List.size_toArray, List.length_cons, List.length_nil, Nat.reduceAdd, Nat.reduceSub, Array.replicate_succ, Array.replicate_zero, List.push_toArray, List.append_toArray, List.nil_append, List.cons_append]
    have t51 : Fence.wide.fn 125 := trivial
    have t53 : Fence.wide.fn 126 := trivial
    have t52 : Fence.wide.fn 130 := trivial
    gi_wp2_with (gi_at_call 125; refine (callsIn_wide.2 C.out).mono ?_; rintro e w1 ⟨rfl, hw1⟩; obtain rfl : Wb = w1 := hw1.symm)
    refine (callsIn_wide.2 C2.out).mono ?_
    rintro e W1 ⟨rfl, hbW1⟩
    have hb1 : Below w.heap.size w W1 := hbb.trans (hbW1.mono hsb)
    have hz1w := hb1.size
    have hzW : Wb.heap.size ≤ W1.heap.size := hbW1.size
    have q01 : Boxed W1 w.heap.size 43 (.slice au ws.length cau) := (hbW1.block _ (by have := HZB.out; omega)).trans Q0.out
    have hc01 := q01.cell
    have hwz : w.heap.size < W1.heap.size := q01.lt
    clear hWb hbW1 hcu
    gi_wp2_with (gi_at_call 126; refine (windows_in Fence.wide 5 trivial rfl _ _ _ _ _ _).mono ?_; rintro e w' ⟨rfl, rfl⟩)
    obtain ⟨w4, hw4⟩ : ∃ w4, (((((W1.alloc (.cells #[] 3)).alloc (.cells #[.slice (some ⟨W1.heap.size, 0, none⟩) 0 0] 43)).alloc (.cells #[.slice ao xs.length cap] 43)).alloc (.cells #[.int .i64 ((ws.length : Int) - 1)] 3)).alloc (.cells #[.int .i64 0] 3)) = w4 := ⟨_, rfl⟩
    have hz4 : w4.heap.size = W1.heap.size + 5 := by rw [← hw4]; simp
    have bO : Boxed w4 (W1.heap.size + 1) 43 (.slice (some ⟨W1.heap.size, 0, none⟩) 0 0) := by
      rw [← hw4]
      have := Boxed.new (W1.alloc (.cells #[] 3)) 43 (.slice (some ⟨W1.heap.size, 0, none⟩) 0 0)
      rw [World.size_alloc] at this
      exact ((this.alloc _).alloc _).alloc _
    have b1 : Boxed w4 (W1.heap.size + 1 + 1) 43 (.slice ao xs.length cap) := by
      rw [← hw4]
      have := Boxed.new ((W1.alloc (.cells #[] 3)).alloc (.cells #[.slice (some ⟨W1.heap.size, 0, none⟩) 0 0] 43)) 43 (.slice ao xs.length cap)
      rw [World.size_alloc, World.size_alloc] at this
      exact (this.alloc _).alloc _
    have b2 : Boxed w4 (W1.heap.size + 1 + 1 + 1) 3 (.int .i64 ((ws.length : Int) - 1)) := by
      rw [← hw4]
      have := Boxed.new (((W1.alloc (.cells #[] 3)).alloc (.cells #[.slice (some ⟨W1.heap.size, 0, none⟩) 0 0] 43)).alloc (.cells #[.slice ao xs.length cap] 43)) 3 (.int .i64 ((ws.length : Int) - 1))
      rw [World.size_alloc, World.size_alloc, World.size_alloc] at this
      exact this.alloc _
    have b3 : Boxed w4 (W1.heap.size + 1 + 1 + 1 + 1) 3 (.int .i64 0) := by
      rw [← hw4]
      have := Boxed.new ((((W1.alloc (.cells #[] 3)).alloc (.cells #[.slice (some ⟨W1.heap.size, 0, none⟩) 0 0] 43)).alloc (.cells #[.slice ao xs.length cap] 43)).alloc (.cells #[.int .i64 ((ws.length : Int) - 1)] 3)) 3 (.int .i64 0)
      rw [World.size_alloc, World.size_alloc, World.size_alloc, World.size_alloc] at this
      exact this
    rw [← HM.out] at b2
    have hR4 : w4.ownsRow w.heap.size 3 1 (.slice (some ⟨W1.heap.size, 0, none⟩) 0 0) 0 [] := by
      rw [← hw4]
      exact (((((World.ownsRow_made W1 #[] 0 hz1w (by simp [maxLen]) rfl).alloc _).alloc _).alloc _).alloc _)
    have hB4 : Below w.heap.size w w4 := by
      rw [← hw4]
      exact (((((hb1.alloc hz1w _).alloc (by simp; omega) _).alloc (by simp; omega) _).alloc (by simp; omega) _).alloc (by simp; omega) _)
    rw [hw4]
    have q04 : Boxed w4 w.heap.size 43 (.slice au ws.length cau) := by
      rw [← hw4]
      exact ((((q01.alloc _).alloc _).alloc _).alloc _).alloc _
    clear hw4 hb1
    refine wpIn_rangeFunc_ownG rfl (by omega) (gf := 165) (lb := #[.pointer (some ⟨W1.heap.size + 1 + 1, 0, none⟩), .pointer (some ⟨W1.heap.size + 1 + 1 + 1, 0, none⟩), .pointer (some ⟨W1.heap.size + 1 + 1 + 1 + 1, 0, none⟩)]) rfl trivial (enters_of Try.func165 (by kernel_rfl) rfl)
      (windows_stops Fence.wide (6 - 1) trivial rfl (by omega) (W1.heap.size + 1 + 1) (W1.heap.size + 1 + 1 + 1) (W1.heap.size + 1 + 1 + 1 + 1) ao xs.length cap m 0 bk off HAO.out hcap hn (by omega) (by omega) w4 (by omega) (by omega) (by omega) b1.cell b2.cell b3.cell)
      (fun h k => ⟨k.1.trans h.1, k.2.1.trans h.2.1, k.2.2.trans h.2.2⟩)
      (fun W l o o' hl hlo _ _ => ⟨World.cell?_of_block (World.putObj_heap_other (by show W1.heap.size + 1 + 1 ≠ l; omega)), World.cell?_of_block (World.putObj_heap_other (by show W1.heap.size + 1 + 1 + 1 ≠ l; omega)), World.cell?_of_block (World.putObj_heap_other (by show W1.heap.size + 1 + 1 + 1 + 1 ≠ l; omega))⟩)
      (Below.refl _ _) (fun _ => rfl)
      (fun pre W => ((∃ v, Boxed W (W1.heap.size + 1) 43 v ∧ W.ownsRow w.heap.size 3 1 v pre.length ((pre.map fun i => f i.1).map (Value.int .i64)) ∧ (∃ g, v.ownBlock = some g ∧ (g = W1.heap.size ∨ W1.heap.size + 5 ≤ g))) ∧ Below w.heap.size w W) ∧ (Boxed W (W1.heap.size + 1 + 1) 43 (.slice ao xs.length cap) ∧ Boxed W (W1.heap.size + 1 + 1 + 1) 3 (.int .i64 m) ∧ Boxed W (W1.heap.size + 1 + 1 + 1 + 1) 3 (.int .i64 0) ∧ Boxed W w.heap.size 43 (.slice au ws.length cau)))
      (fun _ _ _ => False)
      (OwnFrom.and (OwnFrom.and (Own.from (holdsRow_own w.heap.size (W1.heap.size + 1) 43 3 1 (fun pre : List (Fin xs.length) => pre.length) (fun pre => (pre.map fun i => f i.1).map (Value.int .i64)) (fun _ v => ∃ g, v.ownBlock = some g ∧ (g = W1.heap.size ∨ W1.heap.size + 5 ≤ g))) _) (ownFrom_below (Nat.le_refl _) (by omega)))
        (OwnFrom.and (Own.from (boxed_own _ _ _) _) (OwnFrom.and (Own.from (boxed_own _ _ _) _) (OwnFrom.and (Own.from (boxed_own _ _ _) _) (Own.from (boxed_own _ _ _) _)))))
      (fun _ _ _ _ _ hs _ _ => hs)
      ⟨⟨⟨_, bO, hR4, _, rfl, Or.inl rfl⟩, hB4⟩, b1, b2, b3, q04⟩
      (fun x => { tmps := #[.slice ao xs.length cap, .slice au ws.length cau, undef, .pointer (some ⟨w.heap.size, 0, none⟩), .slice none 0 0, .bool false, .pointer (some ⟨W1.heap.size + 1, 0, none⟩), winV bk off xs.length cap m 0 x.1, .slice ao xs.length cap, .bool true, .bool false, .bool false, .slice au ws.length cau, .bool true, .bool false, .bool false, undef, .slice (some ⟨W1.heap.size, 0, none⟩) 0 0, .slice ao xs.length cap, .slice au ws.length cau, .int .i64 ws.length, .int .i64 ((ws.length : Int) - 1), .func (.func 165) #[] #[.pointer (some ⟨W1.heap.size + 1 + 1, 0, none⟩), .pointer (some ⟨W1.heap.size + 1 + 1 + 1, 0, none⟩), .pointer (some ⟨W1.heap.size + 1 + 1 + 1 + 1, 0, none⟩)], winV bk off xs.length cap m 0 x.1, undef, undef, undef, undef, undef, undef, undef], defers := [] }) ?assign ?body ?done ?stop
    case assign =>
      intro l x W K hK
      gi_wp2
      exact hK
    case body =>
      rintro l pre x W ⟨⟨⟨v, hv, hrow, g, hg, hg4⟩, hBW⟩, q1, q2, q3, q9⟩ hlt
      have hc := hv.cell
      have hcw := q9.cell
      have hlt3 := q3.lt
      have hlt9 := q04.lt
      have hsW := hBW.size
      have hx1 : 0 < xs.length := by have := x.2; omega
      have hls : Lst (Value.int .i64) W B (.slice (some ⟨bk, off, none⟩) xs.length cap) xs := by have := HL.out.below (hBW.mono hB); rwa [HAO.out hx1] at this
      have hlw := win_lst (bf := m) (af := 0) hls x.2
      have hlu : Lst (Value.int .i64) W B (.slice au ws.length cau) ws := HLU.out.below (hBW.mono hB)
      have hwl := win_len xs m 0 x.1
      have hxl := x.2
      have hm2 := HM2.out
      have CT := implWsum (win xs m 0 x.1) ws xs x.1 _ _ W.drew B (hlw.below (Below.refl _ _).drew) (hlu.below (Below.refl _ _).drew) (by rw [hwl]; omega) (by omega) HW.out HX.out (win_back x.2)
      have HE := Lib.hid (show f x.1 = wsum ws xs x.1 (win xs m 0 x.1).length by rw [HF.out]; unfold fWg; rw [show min (x.1 + 1) ws.length = (win xs m 0 x.1).length by rw [hwl]; omega])
      rw [← HE.out] at CT
      have HCT := Lib.hid CT
      have t54 : Fence.wide.fn 134 := trivial
      have hd : 1 ≤ 6 - 1 - 1 := by omega
      have hmx : Try.prog.follows .mixedOrders = true := by kernel_rfl
      clear CT hls hlw hlu hwl hxl hm2
      generalize winV bk off xs.length cap m 0 x.1 = wv at *
      gi_wp2
      have hrowd : ∀ nd, (W.drewN nd).ownsRow w.heap.size 3 1 v pre.length ((pre.map fun i => f i.1).map (Value.int .i64)) := fun _ => hrow
      have hvd : ∀ nd, Boxed (W.drewN nd) (W1.heap.size + 1) 43 v := fun _ => hv
      have bnew := fun nd => Bx.new (W.drewN nd) [.int .i64 (f x.1)] 3
      have HR := Lib.hid hrowd
      have HV := Lib.hid hvd
      have HBN := Lib.hid bnew
      have hcal : ∀ k, ((W.drewN k).alloc (.cells #[.int .i64 (f x.1)] 3)).cell? ⟨W1.heap.size + 1, 0, none⟩ = some v := fun k => ((hvd k).alloc (.cells #[.int .i64 (f x.1)] 3)).cell
      have hcp1 : pre.length + 1 ≤ maxLen := by unfold maxLen; omega
      have hcp2 : (pre.length + 1) * 8 ≤ 140737488355328 := by omega
      clear hrowd hvd bnew
      refine wpIn_region_round hmx (by kernel_rfl) ?_
      refine wpAnyIn_take (i := 1) (v := wv) rfl rfl (by kernel_rfl) (by kernel_rfl) (by kernel_rfl) (fun _ _ _ h => h) ⟨Or.inl ⟨by rfl, (by intro w; go_simp; try with_reducible rfl)⟩, fun _ => rfl⟩ ?_
      refine wpAnyIn_ready (rs := [0, 2]) (by kernel_rfl) (by simp) ?_
      refine AllReadyIn.cons rfl (fun K hK => ?_) ?_
      · go_simp
        refine hK _ _ ?_
        clear hK K
        refine wpAnyIn_ready (rs := [2]) (by kernel_rfl) (by simp) ?_
        refine AllReadyIn.cons rfl (fun K hK => ?_) ?_
        · go_simp
          refine hK _ _ ?_
          clear hK K
          refine wpAnyIn_ready (rs := [3]) (by kernel_rfl) (by simp) ?_
          refine AllReadyIn.cons rfl (fun K hK => ?_) ?_
          · go_simp
            refine (callsIn_wide.2 HCT.out).mono ?_
            rintro e w' ⟨rfl, nd, hw'⟩
            obtain rfl := hw'
            dsimp only
            refine hK _ _ ?_
            clear hK K
            refine wpAnyIn_ready (rs := [4]) (by kernel_rfl) (by simp) ?_
            refine AllReadyIn.cons rfl (fun K hK => ?_) ?_
            · go_simp
              refine hK _ _ ?_
              clear hK K
              refine wpAnyIn_ready (rs := [5]) (by kernel_rfl) (by simp) ?_
              refine AllReadyIn.cons rfl (fun K hK => ?_) ?_
              · refine stepIn_append_src ((W.drewN (1 + nd)).alloc (.cells #[.int .i64 (f x.1)] 3)) (by first | rfl | kernel_rfl) _ _ _ (by rfl) w.heap.size 3 ti (.int .i64 0) 8 Try.underlying43 hi hz0 hz1 hz2 rfl v pre.length ((pre.map fun i => f i.1).map (Value.int .i64)) (by rfl) ((HR.out (1 + nd)).alloc _) _ 1 [.int .i64 (f x.1)] (by rfl) (src_boxV (HBN.out (1 + nd)) rfl) hcp1 hcp2 (by simp; omega) ?_
                intro v5 w5 r5 hg5 hat5
                refine hK _ _ ?_
                clear hK K
                obtain ⟨g5, cap5, rfl⟩ := ownsRow_succ r5
                obtain ⟨hv1, hv2, hr2, hk2, hbl2⟩ := (HV.out (1 + nd)).appended (by decide) (HR.out (1 + nd)) (by exact hsW) (by omega) r5 hg5
                have hc1 := hv1.cell
                have hf1 := hv1.frozen
                refine wpAnyIn_ready (rs := [6]) (by kernel_rfl) (by simp) ?_
                refine AllReadyIn.cons rfl (fun K hK => ?_) ?_
                · go_simp
                  refine hK _ _ ?_
                  clear hK K
                  refine wpAnyIn_done (by kernel_rfl) ?_ _
                  gi_wp2
                  have hne1 : some (W1.heap.size + 1 + 1) ≠ v.ownBlock := by rw [hg]; intro e; have := Option.some.inj e; omega
                  have hne2 : some (W1.heap.size + 1 + 1 + 1) ≠ v.ownBlock := by rw [hg]; intro e; have := Option.some.inj e; omega
                  have hne3 : some (W1.heap.size + 1 + 1 + 1 + 1) ≠ v.ownBlock := by rw [hg]; intro e; have := Option.some.inj e; omega
                  have hne9 : some w.heap.size ≠ v.ownBlock := by rw [hg]; intro e; have := Option.some.inj e; omega
                  have q1d : Boxed (W.drewN (1 + nd)) (W1.heap.size + 1 + 1) 43 (.slice ao xs.length cap) := q1
                  have q2d : Boxed (W.drewN (1 + nd)) (W1.heap.size + 1 + 1 + 1) 3 (.int .i64 m) := q2
                  have q3d : Boxed (W.drewN (1 + nd)) (W1.heap.size + 1 + 1 + 1 + 1) 3 (.int .i64 0) := q3
                  have q9d : Boxed (W.drewN (1 + nd)) w.heap.size 43 (.slice au ws.length cau) := q9
                  have e1 := ((q1d.alloc _).kept hg5 hne1).other (B' := W1.heap.size + 1) (by omega) (.slice (some ⟨g5, 0, none⟩) (pre.length + 1) cap5)
                  have e2 := ((q2d.alloc _).kept hg5 hne2).other (B' := W1.heap.size + 1) (by omega) (.slice (some ⟨g5, 0, none⟩) (pre.length + 1) cap5)
                  have e3 := ((q3d.alloc _).kept hg5 hne3).other (B' := W1.heap.size + 1) (by omega) (.slice (some ⟨g5, 0, none⟩) (pre.length + 1) cap5)
                  have e9 := ((q9d.alloc _).kept hg5 hne9).other (B' := W1.heap.size + 1) (by omega) (.slice (some ⟨g5, 0, none⟩) (pre.length + 1) cap5)
                  have hg' : g5 = W1.heap.size ∨ W1.heap.size + 5 ≤ g5 := by
                    rcases hat5 with h | h
                    · rw [hg] at h
                      have h2 : some g5 = some g := h
                      have := Option.some.inj h2
                      omega
                    · have h2 : some g5 = some ((W.drewN (1 + nd)).alloc (.cells #[.int .i64 (f x.1)] 3)).heap.size := h
                      have := Option.some.inj h2
                      rw [World.size_alloc] at this
                      have h9 : (W.drewN (1 + nd)).heap.size = W.heap.size := rfl
                      omega
                  have kd : KeepsOthers W (W.drewN (1 + nd)) := keepsO_drewN W (1 + nd)
                  refine ⟨(kd.trans hk2).from _, ⟨e1.cell.trans q1.cell.symm, e2.cell.trans q2.cell.symm, e3.cell.trans q3.cell.symm⟩, ⟨⟨_, hv2, by simpa using hr2, g5, rfl, hg'⟩, hBW.trans ((drewN_b (Below.refl _ W) (1 + nd)).trans hbl2)⟩, e1, e2, e3, e9⟩
                exact AllReadyIn.nil
              exact AllReadyIn.nil
            exact AllReadyIn.nil
          exact AllReadyIn.nil
        exact AllReadyIn.nil
      refine AllReadyIn.cons rfl (fun K hK => ?_) ?_
      · go_simp
        refine hK _ _ ?_
        clear hK K
        refine wpAnyIn_ready (rs := [0, 3]) (by kernel_rfl) (by simp) ?_
        refine AllReadyIn.cons rfl (fun K hK => ?_) ?_
        · go_simp
          refine hK _ _ ?_
          clear hK K
          refine wpAnyIn_ready (rs := [3]) (by kernel_rfl) (by simp) ?_
          refine AllReadyIn.cons rfl (fun K hK => ?_) ?_
          · go_simp
            refine (callsIn_wide.2 HCT.out).mono ?_
            rintro e w' ⟨rfl, nd, hw'⟩
            obtain rfl := hw'
            dsimp only
            refine hK _ _ ?_
            clear hK K
            refine wpAnyIn_ready (rs := [4]) (by kernel_rfl) (by simp) ?_
            refine AllReadyIn.cons rfl (fun K hK => ?_) ?_
            · go_simp
              refine hK _ _ ?_
              clear hK K
              refine wpAnyIn_ready (rs := [5]) (by kernel_rfl) (by simp) ?_
              refine AllReadyIn.cons rfl (fun K hK => ?_) ?_
              · refine stepIn_append_src ((W.drewN (1 + nd)).alloc (.cells #[.int .i64 (f x.1)] 3)) (by first | rfl | kernel_rfl) _ _ _ (by rfl) w.heap.size 3 ti (.int .i64 0) 8 Try.underlying43 hi hz0 hz1 hz2 rfl v pre.length ((pre.map fun i => f i.1).map (Value.int .i64)) (by rfl) ((HR.out (1 + nd)).alloc _) _ 1 [.int .i64 (f x.1)] (by rfl) (src_boxV (HBN.out (1 + nd)) rfl) hcp1 hcp2 (by simp; omega) ?_
                intro v5 w5 r5 hg5 hat5
                refine hK _ _ ?_
                clear hK K
                obtain ⟨g5, cap5, rfl⟩ := ownsRow_succ r5
                obtain ⟨hv1, hv2, hr2, hk2, hbl2⟩ := (HV.out (1 + nd)).appended (by decide) (HR.out (1 + nd)) (by exact hsW) (by omega) r5 hg5
                have hc1 := hv1.cell
                have hf1 := hv1.frozen
                refine wpAnyIn_ready (rs := [6]) (by kernel_rfl) (by simp) ?_
                refine AllReadyIn.cons rfl (fun K hK => ?_) ?_
                · go_simp
                  refine hK _ _ ?_
                  clear hK K
                  refine wpAnyIn_done (by kernel_rfl) ?_ _
                  gi_wp2
                  have hne1 : some (W1.heap.size + 1 + 1) ≠ v.ownBlock := by rw [hg]; intro e; have := Option.some.inj e; omega
                  have hne2 : some (W1.heap.size + 1 + 1 + 1) ≠ v.ownBlock := by rw [hg]; intro e; have := Option.some.inj e; omega
                  have hne3 : some (W1.heap.size + 1 + 1 + 1 + 1) ≠ v.ownBlock := by rw [hg]; intro e; have := Option.some.inj e; omega
                  have hne9 : some w.heap.size ≠ v.ownBlock := by rw [hg]; intro e; have := Option.some.inj e; omega
                  have q1d : Boxed (W.drewN (1 + nd)) (W1.heap.size + 1 + 1) 43 (.slice ao xs.length cap) := q1
                  have q2d : Boxed (W.drewN (1 + nd)) (W1.heap.size + 1 + 1 + 1) 3 (.int .i64 m) := q2
                  have q3d : Boxed (W.drewN (1 + nd)) (W1.heap.size + 1 + 1 + 1 + 1) 3 (.int .i64 0) := q3
                  have q9d : Boxed (W.drewN (1 + nd)) w.heap.size 43 (.slice au ws.length cau) := q9
                  have e1 := ((q1d.alloc _).kept hg5 hne1).other (B' := W1.heap.size + 1) (by omega) (.slice (some ⟨g5, 0, none⟩) (pre.length + 1) cap5)
                  have e2 := ((q2d.alloc _).kept hg5 hne2).other (B' := W1.heap.size + 1) (by omega) (.slice (some ⟨g5, 0, none⟩) (pre.length + 1) cap5)
                  have e3 := ((q3d.alloc _).kept hg5 hne3).other (B' := W1.heap.size + 1) (by omega) (.slice (some ⟨g5, 0, none⟩) (pre.length + 1) cap5)
                  have e9 := ((q9d.alloc _).kept hg5 hne9).other (B' := W1.heap.size + 1) (by omega) (.slice (some ⟨g5, 0, none⟩) (pre.length + 1) cap5)
                  have hg' : g5 = W1.heap.size ∨ W1.heap.size + 5 ≤ g5 := by
                    rcases hat5 with h | h
                    · rw [hg] at h
                      have h2 : some g5 = some g := h
                      have := Option.some.inj h2
                      omega
                    · have h2 : some g5 = some ((W.drewN (1 + nd)).alloc (.cells #[.int .i64 (f x.1)] 3)).heap.size := h
                      have := Option.some.inj h2
                      rw [World.size_alloc] at this
                      have h9 : (W.drewN (1 + nd)).heap.size = W.heap.size := rfl
                      omega
                  have kd : KeepsOthers W (W.drewN (1 + nd)) := keepsO_drewN W (1 + nd)
                  refine ⟨(kd.trans hk2).from _, ⟨e1.cell.trans q1.cell.symm, e2.cell.trans q2.cell.symm, e3.cell.trans q3.cell.symm⟩, ⟨⟨_, hv2, by simpa using hr2, g5, rfl, hg'⟩, hBW.trans ((drewN_b (Below.refl _ W) (1 + nd)).trans hbl2)⟩, e1, e2, e3, e9⟩
                exact AllReadyIn.nil
              exact AllReadyIn.nil
            exact AllReadyIn.nil
          exact AllReadyIn.nil
        refine AllReadyIn.cons rfl (fun K hK => ?_) ?_
        · go_simp
          refine (callsIn_wide.2 HCT.out).mono ?_
          rintro e w' ⟨rfl, nd, hw'⟩
          obtain rfl := hw'
          dsimp only
          refine hK _ _ ?_
          clear hK K
          refine wpAnyIn_ready (rs := [0, 4]) (by kernel_rfl) (by simp) ?_
          refine AllReadyIn.cons rfl (fun K hK => ?_) ?_
          · go_simp
            refine hK _ _ ?_
            clear hK K
            refine wpAnyIn_ready (rs := [4]) (by kernel_rfl) (by simp) ?_
            refine AllReadyIn.cons rfl (fun K hK => ?_) ?_
            · go_simp
              refine hK _ _ ?_
              clear hK K
              refine wpAnyIn_ready (rs := [5]) (by kernel_rfl) (by simp) ?_
              refine AllReadyIn.cons rfl (fun K hK => ?_) ?_
              · refine stepIn_append_src ((W.drewN (1 + nd)).alloc (.cells #[.int .i64 (f x.1)] 3)) (by first | rfl | kernel_rfl) _ _ _ (by rfl) w.heap.size 3 ti (.int .i64 0) 8 Try.underlying43 hi hz0 hz1 hz2 rfl v pre.length ((pre.map fun i => f i.1).map (Value.int .i64)) (by rfl) ((HR.out (1 + nd)).alloc _) _ 1 [.int .i64 (f x.1)] (by rfl) (src_boxV (HBN.out (1 + nd)) rfl) hcp1 hcp2 (by simp; omega) ?_
                intro v5 w5 r5 hg5 hat5
                refine hK _ _ ?_
                clear hK K
                obtain ⟨g5, cap5, rfl⟩ := ownsRow_succ r5
                obtain ⟨hv1, hv2, hr2, hk2, hbl2⟩ := (HV.out (1 + nd)).appended (by decide) (HR.out (1 + nd)) (by exact hsW) (by omega) r5 hg5
                have hc1 := hv1.cell
                have hf1 := hv1.frozen
                refine wpAnyIn_ready (rs := [6]) (by kernel_rfl) (by simp) ?_
                refine AllReadyIn.cons rfl (fun K hK => ?_) ?_
                · go_simp
                  refine hK _ _ ?_
                  clear hK K
                  refine wpAnyIn_done (by kernel_rfl) ?_ _
                  gi_wp2
                  have hne1 : some (W1.heap.size + 1 + 1) ≠ v.ownBlock := by rw [hg]; intro e; have := Option.some.inj e; omega
                  have hne2 : some (W1.heap.size + 1 + 1 + 1) ≠ v.ownBlock := by rw [hg]; intro e; have := Option.some.inj e; omega
                  have hne3 : some (W1.heap.size + 1 + 1 + 1 + 1) ≠ v.ownBlock := by rw [hg]; intro e; have := Option.some.inj e; omega
                  have hne9 : some w.heap.size ≠ v.ownBlock := by rw [hg]; intro e; have := Option.some.inj e; omega
                  have q1d : Boxed (W.drewN (1 + nd)) (W1.heap.size + 1 + 1) 43 (.slice ao xs.length cap) := q1
                  have q2d : Boxed (W.drewN (1 + nd)) (W1.heap.size + 1 + 1 + 1) 3 (.int .i64 m) := q2
                  have q3d : Boxed (W.drewN (1 + nd)) (W1.heap.size + 1 + 1 + 1 + 1) 3 (.int .i64 0) := q3
                  have q9d : Boxed (W.drewN (1 + nd)) w.heap.size 43 (.slice au ws.length cau) := q9
                  have e1 := ((q1d.alloc _).kept hg5 hne1).other (B' := W1.heap.size + 1) (by omega) (.slice (some ⟨g5, 0, none⟩) (pre.length + 1) cap5)
                  have e2 := ((q2d.alloc _).kept hg5 hne2).other (B' := W1.heap.size + 1) (by omega) (.slice (some ⟨g5, 0, none⟩) (pre.length + 1) cap5)
                  have e3 := ((q3d.alloc _).kept hg5 hne3).other (B' := W1.heap.size + 1) (by omega) (.slice (some ⟨g5, 0, none⟩) (pre.length + 1) cap5)
                  have e9 := ((q9d.alloc _).kept hg5 hne9).other (B' := W1.heap.size + 1) (by omega) (.slice (some ⟨g5, 0, none⟩) (pre.length + 1) cap5)
                  have hg' : g5 = W1.heap.size ∨ W1.heap.size + 5 ≤ g5 := by
                    rcases hat5 with h | h
                    · rw [hg] at h
                      have h2 : some g5 = some g := h
                      have := Option.some.inj h2
                      omega
                    · have h2 : some g5 = some ((W.drewN (1 + nd)).alloc (.cells #[.int .i64 (f x.1)] 3)).heap.size := h
                      have := Option.some.inj h2
                      rw [World.size_alloc] at this
                      have h9 : (W.drewN (1 + nd)).heap.size = W.heap.size := rfl
                      omega
                  have kd : KeepsOthers W (W.drewN (1 + nd)) := keepsO_drewN W (1 + nd)
                  refine ⟨(kd.trans hk2).from _, ⟨e1.cell.trans q1.cell.symm, e2.cell.trans q2.cell.symm, e3.cell.trans q3.cell.symm⟩, ⟨⟨_, hv2, by simpa using hr2, g5, rfl, hg'⟩, hBW.trans ((drewN_b (Below.refl _ W) (1 + nd)).trans hbl2)⟩, e1, e2, e3, e9⟩
                exact AllReadyIn.nil
              exact AllReadyIn.nil
            exact AllReadyIn.nil
          refine AllReadyIn.cons rfl (fun K hK => ?_) ?_
          · go_simp
            refine hK _ _ ?_
            clear hK K
            refine wpAnyIn_ready (rs := [0]) (by kernel_rfl) (by simp) ?_
            refine AllReadyIn.cons rfl (fun K hK => ?_) ?_
            · go_simp
              refine hK _ _ ?_
              clear hK K
              refine wpAnyIn_ready (rs := [5]) (by kernel_rfl) (by simp) ?_
              refine AllReadyIn.cons rfl (fun K hK => ?_) ?_
              · refine stepIn_append_src ((W.drewN (1 + nd)).alloc (.cells #[.int .i64 (f x.1)] 3)) (by first | rfl | kernel_rfl) _ _ _ (by rfl) w.heap.size 3 ti (.int .i64 0) 8 Try.underlying43 hi hz0 hz1 hz2 rfl v pre.length ((pre.map fun i => f i.1).map (Value.int .i64)) (by rfl) ((HR.out (1 + nd)).alloc _) _ 1 [.int .i64 (f x.1)] (by rfl) (src_boxV (HBN.out (1 + nd)) rfl) hcp1 hcp2 (by simp; omega) ?_
                intro v5 w5 r5 hg5 hat5
                refine hK _ _ ?_
                clear hK K
                obtain ⟨g5, cap5, rfl⟩ := ownsRow_succ r5
                obtain ⟨hv1, hv2, hr2, hk2, hbl2⟩ := (HV.out (1 + nd)).appended (by decide) (HR.out (1 + nd)) (by exact hsW) (by omega) r5 hg5
                have hc1 := hv1.cell
                have hf1 := hv1.frozen
                refine wpAnyIn_ready (rs := [6]) (by kernel_rfl) (by simp) ?_
                refine AllReadyIn.cons rfl (fun K hK => ?_) ?_
                · go_simp
                  refine hK _ _ ?_
                  clear hK K
                  refine wpAnyIn_done (by kernel_rfl) ?_ _
                  gi_wp2
                  have hne1 : some (W1.heap.size + 1 + 1) ≠ v.ownBlock := by rw [hg]; intro e; have := Option.some.inj e; omega
                  have hne2 : some (W1.heap.size + 1 + 1 + 1) ≠ v.ownBlock := by rw [hg]; intro e; have := Option.some.inj e; omega
                  have hne3 : some (W1.heap.size + 1 + 1 + 1 + 1) ≠ v.ownBlock := by rw [hg]; intro e; have := Option.some.inj e; omega
                  have hne9 : some w.heap.size ≠ v.ownBlock := by rw [hg]; intro e; have := Option.some.inj e; omega
                  have q1d : Boxed (W.drewN (1 + nd)) (W1.heap.size + 1 + 1) 43 (.slice ao xs.length cap) := q1
                  have q2d : Boxed (W.drewN (1 + nd)) (W1.heap.size + 1 + 1 + 1) 3 (.int .i64 m) := q2
                  have q3d : Boxed (W.drewN (1 + nd)) (W1.heap.size + 1 + 1 + 1 + 1) 3 (.int .i64 0) := q3
                  have q9d : Boxed (W.drewN (1 + nd)) w.heap.size 43 (.slice au ws.length cau) := q9
                  have e1 := ((q1d.alloc _).kept hg5 hne1).other (B' := W1.heap.size + 1) (by omega) (.slice (some ⟨g5, 0, none⟩) (pre.length + 1) cap5)
                  have e2 := ((q2d.alloc _).kept hg5 hne2).other (B' := W1.heap.size + 1) (by omega) (.slice (some ⟨g5, 0, none⟩) (pre.length + 1) cap5)
                  have e3 := ((q3d.alloc _).kept hg5 hne3).other (B' := W1.heap.size + 1) (by omega) (.slice (some ⟨g5, 0, none⟩) (pre.length + 1) cap5)
                  have e9 := ((q9d.alloc _).kept hg5 hne9).other (B' := W1.heap.size + 1) (by omega) (.slice (some ⟨g5, 0, none⟩) (pre.length + 1) cap5)
                  have hg' : g5 = W1.heap.size ∨ W1.heap.size + 5 ≤ g5 := by
                    rcases hat5 with h | h
                    · rw [hg] at h
                      have h2 : some g5 = some g := h
                      have := Option.some.inj h2
                      omega
                    · have h2 : some g5 = some ((W.drewN (1 + nd)).alloc (.cells #[.int .i64 (f x.1)] 3)).heap.size := h
                      have := Option.some.inj h2
                      rw [World.size_alloc] at this
                      have h9 : (W.drewN (1 + nd)).heap.size = W.heap.size := rfl
                      omega
                  have kd : KeepsOthers W (W.drewN (1 + nd)) := keepsO_drewN W (1 + nd)
                  refine ⟨(kd.trans hk2).from _, ⟨e1.cell.trans q1.cell.symm, e2.cell.trans q2.cell.symm, e3.cell.trans q3.cell.symm⟩, ⟨⟨_, hv2, by simpa using hr2, g5, rfl, hg'⟩, hBW.trans ((drewN_b (Below.refl _ W) (1 + nd)).trans hbl2)⟩, e1, e2, e3, e9⟩
                exact AllReadyIn.nil
              exact AllReadyIn.nil
            exact AllReadyIn.nil
          exact AllReadyIn.nil
        exact AllReadyIn.nil
      exact AllReadyIn.nil
    case done =>
      rintro D ys W hD rfl ⟨⟨⟨v, hv, hrow, _⟩, hB⟩, _, _⟩ hK
      have hc := hv.cell
      rw [fin_up] at hrow
      gi_wp2
      refine ⟨by simp, .inl ⟨_, _, rfl, run_takeDeferred hK, ?_⟩⟩
      exact ⟨_, results_tmp2 rfl _ _ _, v, rfl, Own.of_row (ownsRow_putObj hrow _ hK rfl), hB.trans (belowK_b (w := w) (Nat.le_refl _) W D _ _ (by omega) hK rfl rfl)⟩
    case stop =>
      rintro D c' pre W _ _ h _
      exact h.elim
end Go.Proofs.Ytklilfbokpljkaa
