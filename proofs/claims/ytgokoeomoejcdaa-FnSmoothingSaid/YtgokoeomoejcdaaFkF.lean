/- Integer filters: the program's medians. -/
import Derived.Test.YtgokoeomoejcdaaFkC
import Derived.Test.YtgokoeomoejcdaaFkE
import Derived.IntWalk
import Derived.Laws.OwnMore
namespace Go.Proofs.Ytgokoeomoejcdaa
open Go.ChangeShapes Go.WideShapes Go.ChangeAt Go.RowKit Go.ChangeMaps Go.Shelf
set_option linter.unusedSimpArgs false
set_option linter.unusedVariables false

attribute [local go_sem] Oper.semAt_some

theorem keepsFrom_below {B : Nat} {W W' : World} (h : Below W.heap.size W W') : KeepsFrom B W W' := ⟨h.size, fun k o _ hk _ => (h.block k (Array.getElem?_eq_some_iff.1 hk).1).trans hk⟩
theorem row_someM {w : World} {base size n : Nat} {e : TypeId} {v : Value} {xs : List Value} (h : w.ownsRow base e size v n xs) (hn : 0 < n) : ∃ g cap, v = .slice (some ⟨g, 0, none⟩) n cap ∧ n ≤ cap ∧ cap ≤ maxLen ∧ base ≤ g ∧ g < w.heap.size := by
  rcases h.2 with ⟨rfl, rfl⟩ | ⟨g, cap, cur, rfl, h1, h2, h3, h4, _⟩
  · omega
  · exact ⟨g, cap, rfl, h3, h4, h1, (Array.getElem?_eq_some_iff.1 h2).1⟩
theorem boxed_below {W W' : World} {B : Nat} {t : TypeId} {v : Value} (h : Boxed W B t v) (hb : Below W.heap.size W W') : Boxed W' B t v := (hb.block _ h.lt).trans h

set_option maxRecDepth 100000 in
set_option maxHeartbeats 2000000 in
theorem implMed (xs : List Int) (v : Value) (n : Int) (w : World) (B : Nat) (h : Lst (Value.int .i64) w B v xs) (hB : B ≤ w.heap.size) (hn : xs.length ≤ 1048576) (_ : I64 n) :
    Calls Try.prog 33 #[v, .int .i64 n] w fun e w' => ∃ v', e = .returned (.tuple #[v', .bool (okA xs n 0 3)]) ∧ Own (Value.int .i64) w' w.heap.size w'.heap.size v' (resMed xs n) ∧ Below w.heap.size w w' := by
  have hb1 : Below w.heap.size w (w.alloc (.cells #[.int .i64 n] 3)) := (Below.refl _ _).alloc (Nat.le_refl _) _
  have hz1w : w.heap.size ≤ (w.alloc (.cells #[.int .i64 n] 3)).heap.size := by simp
  cases hk : okL xs with
  | false =>
    have e1 : okA xs n 0 3 = false := by unfold okA; rw [hk]; rfl
    have e2 : resMed xs n = [] := by unfold resMed; rw [e1]; rfl
    have C := Lib.hid (implAreSB xs v w B false h hk)
    rw [e1, e2]
    obtain ⟨ao, cap, rfl⟩ := h.form
    clear e1 e2 hk
    go_enter Try.func33, Try.ntmps33
    go_wp2_with fail
    refine C.out.mono ?_
    rintro e w1 ⟨rfl, hw1⟩
    obtain rfl : w = w1 := hw1.symm
    go_wp2
    go_ret2
    exact ⟨_, rfl, own_empty _ _ (Nat.le_refl _), (Below.refl _ _).alloc (Nat.le_refl _) _⟩
  | true =>
  cases hr : inR n 0 3 with
  | false =>
    have e1 : okA xs n 0 3 = false := by unfold okA; rw [hr, Bool.and_false]
    have e2 : resMed xs n = [] := by unfold resMed; rw [e1]; rfl
    have C := Lib.hid (implAreSB xs v w B true h hk)
    have C2 := Lib.hid (implIn 0 3 n w 3 false hr)
    rw [e1, e2]
    obtain ⟨ao, cap, rfl⟩ := h.form
    clear e1 e2 hk hr
    go_enter Try.func33, Try.ntmps33
    go_wp2_with fail
    refine C.out.mono ?_
    rintro e w1 ⟨rfl, hw1⟩
    obtain rfl : w = w1 := hw1.symm
    go_wp2_with fail
    refine C2.out.mono ?_
    rintro e w2 ⟨rfl, rfl⟩
    go_wp2
    go_ret2
    exact ⟨_, rfl, own_empty1 _ _ _ (by omega), hb1.alloc hz1w _⟩
  | true =>
    obtain ⟨f, hf⟩ : ∃ f : Nat → Int, f = fMed xs n.toNat := ⟨_, rfl⟩
    have e1 : okA xs n 0 3 = true := by unfold okA; rw [hk, hr]; rfl
    have e2 : resMed xs n = up f (xs.length) := by unfold resMed; rw [e1, hf]; rfl
    have C := Lib.hid (implAreSB xs v w B true h hk)
    have C2 := Lib.hid (implIn 0 3 n w 3 true hr)
    obtain ⟨n1, n2⟩ := inR_yes hr
    obtain ⟨gx, gn⟩ := okL_yes hk
    rw [e1, e2]
    obtain ⟨ti, hi, hz0, hz1, hz2⟩ := info_parts infoInt
    have HL := Lib.hid h
    obtain ⟨ao, cap, rfl, hcap, hmax, hnn, hc⟩ := h
    unfold maxLen at hmax
    have HF := Lib.hid hf
    have HX := Lib.hid gx
    obtain ⟨bk, off, hao⟩ : ∃ bk off, 0 < xs.length → ao = some ⟨bk, off, none⟩ := by
      rcases Nat.eq_zero_or_pos xs.length with q | q
      · exact ⟨0, 0, fun p => by omega⟩
      · obtain ⟨x, hx⟩ := get_of_lt q
        obtain ⟨b, o, e, _, _⟩ := hc 0 x hx
        exact ⟨b, o, fun _ => e⟩
    have HAO := Lib.hid hao
    obtain ⟨m, hm⟩ : ∃ m : Nat, (m : Int) = n := ⟨n.toNat, by omega⟩
    have HM := Lib.hid hm
    have HM2 := Lib.hid (show n.toNat = m by omega)
    have hm9 : m ≤ 3 := by omega
    clear e1 e2 hk hr gx hc hnn hf hm hao
    refine (callsIn_wide (n := 10)).1 ?_
    refine callsIn_of_wp_marks Try.func33 rfl trivial ?_ rfl
    simp only [Try.ntmps33, List.size_toArray, List.length_cons, List.length_nil, Nat.reduceAdd, Nat.reduceSub, Array.replicate_succ, Array.replicate_zero, List.push_toArray, List.append_toArray, List.nil_append, List.cons_append]
    have t51 : Fence.wide.fn 51 := trivial
    have t53 : Fence.wide.fn 53 := trivial
    have t59 : Fence.wide.fn 59 := trivial
    gi_wp2_with (gi_at_call 51; refine (callsIn_wide.2 C.out).mono ?_; rintro e w1 ⟨rfl, hw1⟩; obtain rfl : w = w1 := hw1.symm)
    refine (callsIn_wide.2 C2.out).mono ?_
    rintro e w2 ⟨rfl, rfl⟩
    generalize w.alloc (.cells #[.int .i64 n] 3) = W1 at *
    gi_wp2_with (gi_at_call 53; refine (windows_in Fence.wide 9 trivial rfl _ _ _ _ _ _).mono ?_; rintro e w' ⟨rfl, rfl⟩)
    obtain ⟨w4, hw4⟩ : ∃ w4, (((((W1.alloc (.cells #[] 3)).alloc (.cells #[.slice (some ⟨W1.heap.size, 0, none⟩) 0 0] 24)).alloc (.cells #[.slice ao xs.length cap] 24)).alloc (.cells #[.int .i64 n] 3)).alloc (.cells #[.int .i64 n] 3)) = w4 := ⟨_, rfl⟩
    have hz4 : w4.heap.size = W1.heap.size + 5 := by rw [← hw4]; simp
    have bO : Boxed w4 (W1.heap.size + 1) 24 (.slice (some ⟨W1.heap.size, 0, none⟩) 0 0) := by
      rw [← hw4]
      have := Boxed.new (W1.alloc (.cells #[] 3)) 24 (.slice (some ⟨W1.heap.size, 0, none⟩) 0 0)
      rw [World.size_alloc] at this
      exact ((this.alloc _).alloc _).alloc _
    have b1 : Boxed w4 (W1.heap.size + 1 + 1) 24 (.slice ao xs.length cap) := by
      rw [← hw4]
      have := Boxed.new ((W1.alloc (.cells #[] 3)).alloc (.cells #[.slice (some ⟨W1.heap.size, 0, none⟩) 0 0] 24)) 24 (.slice ao xs.length cap)
      rw [World.size_alloc, World.size_alloc] at this
      exact (this.alloc _).alloc _
    have b2 : Boxed w4 (W1.heap.size + 1 + 1 + 1) 3 (.int .i64 n) := by
      rw [← hw4]
      have := Boxed.new (((W1.alloc (.cells #[] 3)).alloc (.cells #[.slice (some ⟨W1.heap.size, 0, none⟩) 0 0] 24)).alloc (.cells #[.slice ao xs.length cap] 24)) 3 (.int .i64 n)
      rw [World.size_alloc, World.size_alloc, World.size_alloc] at this
      exact this.alloc _
    have b3 : Boxed w4 (W1.heap.size + 1 + 1 + 1 + 1) 3 (.int .i64 n) := by
      rw [← hw4]
      have := Boxed.new ((((W1.alloc (.cells #[] 3)).alloc (.cells #[.slice (some ⟨W1.heap.size, 0, none⟩) 0 0] 24)).alloc (.cells #[.slice ao xs.length cap] 24)).alloc (.cells #[.int .i64 n] 3)) 3 (.int .i64 n)
      rw [World.size_alloc, World.size_alloc, World.size_alloc, World.size_alloc] at this
      exact this
    rw [← HM.out] at b2 b3
    have hR4 : w4.ownsRow w.heap.size 3 1 (.slice (some ⟨W1.heap.size, 0, none⟩) 0 0) 0 [] := by
      rw [← hw4]
      exact (((((World.ownsRow_made W1 #[] 0 hz1w (by simp [maxLen]) rfl).alloc _).alloc _).alloc _).alloc _)
    have hB4 : Below w.heap.size w w4 := by
      rw [← hw4]
      exact (((((hb1.alloc hz1w _).alloc (by simp; omega) _).alloc (by simp; omega) _).alloc (by simp; omega) _).alloc (by simp; omega) _)
    rw [hw4]
    clear hw4 hb1
    refine wpIn_rangeFunc_ownG rfl (by omega) (gf := 77) (lb := #[.pointer (some ⟨W1.heap.size + 1 + 1, 0, none⟩), .pointer (some ⟨W1.heap.size + 1 + 1 + 1, 0, none⟩), .pointer (some ⟨W1.heap.size + 1 + 1 + 1 + 1, 0, none⟩)]) rfl trivial (enters_of Try.func77 (by kernel_rfl) rfl)
      (windows_stops Fence.wide (10 - 1) trivial rfl (by omega) (W1.heap.size + 1 + 1) (W1.heap.size + 1 + 1 + 1) (W1.heap.size + 1 + 1 + 1 + 1) ao xs.length cap m m bk off HAO.out hcap hn (by omega) (by omega) w4 (by omega) (by omega) (by omega) b1.cell b2.cell b3.cell)
      (fun h k => ⟨k.1.trans h.1, k.2.1.trans h.2.1, k.2.2.trans h.2.2⟩)
      (fun W l o o' hl hlo _ _ => ⟨World.cell?_of_block (World.putObj_heap_other (by show W1.heap.size + 1 + 1 ≠ l; omega)), World.cell?_of_block (World.putObj_heap_other (by show W1.heap.size + 1 + 1 + 1 ≠ l; omega)), World.cell?_of_block (World.putObj_heap_other (by show W1.heap.size + 1 + 1 + 1 + 1 ≠ l; omega))⟩)
      (Below.refl _ _) (fun _ => rfl)
      (fun pre W => ((∃ v, Boxed W (W1.heap.size + 1) 24 v ∧ W.ownsRow w.heap.size 3 1 v pre.length ((pre.map fun i => f i.1).map (Value.int .i64)) ∧ (∃ g, v.ownBlock = some g ∧ (g = W1.heap.size ∨ W1.heap.size + 5 ≤ g))) ∧ Below w.heap.size w W) ∧ (Boxed W (W1.heap.size + 1 + 1) 24 (.slice ao xs.length cap) ∧ Boxed W (W1.heap.size + 1 + 1 + 1) 3 (.int .i64 m) ∧ Boxed W (W1.heap.size + 1 + 1 + 1 + 1) 3 (.int .i64 m)))
      (fun _ _ _ => False)
      (OwnFrom.and (OwnFrom.and (Own.from (holdsRow_own w.heap.size (W1.heap.size + 1) 24 3 1 (fun pre : List (Fin xs.length) => pre.length) (fun pre => (pre.map fun i => f i.1).map (Value.int .i64)) (fun _ v => ∃ g, v.ownBlock = some g ∧ (g = W1.heap.size ∨ W1.heap.size + 5 ≤ g))) _) (ownFrom_below (Nat.le_refl _) (by omega)))
        (OwnFrom.and (Own.from (boxed_own _ _ _) _) (OwnFrom.and (Own.from (boxed_own _ _ _) _) (Own.from (boxed_own _ _ _) _))))
      (fun _ _ _ _ _ hs _ _ => hs)
      ⟨⟨⟨_, bO, hR4, _, rfl, Or.inl rfl⟩, hB4⟩, b1, b2, b3⟩
      (fun x => { tmps := #[.slice ao xs.length cap, .int .i64 n, undef, undef, .slice none 0 0, .bool false, .pointer (some ⟨W1.heap.size + 1, 0, none⟩), winV bk off xs.length cap m m x.1, undef, .slice ao xs.length cap, .bool true, .bool false, .bool false, .int .i64 n, .slice (some ⟨w.heap.size, 0, none⟩) 1 1, .bool true, .bool false, .bool false, undef, .slice (some ⟨W1.heap.size, 0, none⟩) 0 0, .slice ao xs.length cap, .int .i64 n, .int .i64 n, .func (.func 77) #[] #[.pointer (some ⟨W1.heap.size + 1 + 1, 0, none⟩), .pointer (some ⟨W1.heap.size + 1 + 1 + 1, 0, none⟩), .pointer (some ⟨W1.heap.size + 1 + 1 + 1 + 1, 0, none⟩)], winV bk off xs.length cap m m x.1, undef, undef, undef, undef, undef, undef, undef, undef, undef, undef, undef, undef, undef, undef], defers := [] }) ?assign ?body ?done ?stop
    case assign =>
      intro l x W K hK
      gi_wp2
      exact hK
    case body =>
      rintro l pre x W ⟨⟨⟨v, hv, hrow, g, hg, hg4⟩, hBW⟩, q1, q2, q3⟩ hlt
      have hlt3 := q3.lt
      have hsW := hBW.size
      have hx1 : 0 < xs.length := by have := x.2; omega
      have hls : Lst (Value.int .i64) W B (.slice (some ⟨bk, off, none⟩) xs.length cap) xs := by have := HL.out.below (hBW.mono hB); rwa [HAO.out hx1] at this
      have hlw := win_lst (bf := m) (af := m) hls x.2
      have HE := Lib.hid (show f x.1 = mid (win xs m m x.1) by rw [HF.out]; unfold fMed; rw [HM2.out])
      have hwl := win_len xs m m x.1
      have hxl := x.2
      have hfm : ∃ a9 l9 c9, winV bk off xs.length cap m m x.1 = .slice a9 l9 c9 := ⟨_, _, _, rfl⟩
      have hLl : 0 < (win xs m m x.1).length := by rw [hwl]; omega
      have hLn : (win xs m m x.1).length ≤ 24 := by rw [hwl]; omega
      generalize winV bk off xs.length cap m m x.1 = wv at *
      generalize win xs m m x.1 = L at *
      obtain ⟨a9, l9, c9, rfl⟩ := hfm
      obtain ⟨Wv, hWv⟩ : ∃ Wv, W.alloc (.cells #[.slice a9 l9 c9] 24) = Wv := ⟨_, rfl⟩
      have hbv : Below W.heap.size W Wv := by rw [← hWv]; exact (Below.refl _ _).alloc (Nat.le_refl _) _
      have hzv : Wv.heap.size = W.heap.size + 1 := by rw [← hWv]; simp
      have hcv : Wv.cell? ⟨W.heap.size, 0, none⟩ = some (.slice a9 l9 c9) := by rw [← hWv]; exact (Boxed.new W 24 (.slice a9 l9 c9)).cell
      have hlv : Lst (Value.int .i64) Wv Wv.heap.size (.slice a9 l9 c9) L := (hlw.below (hbv.mono (by omega))).mono (by omega)
      have CV := Lib.hid (vals_in Fence.wide (10 - 1 - 1 - 1) trivial rfl a9 l9 c9 W)
      have CS := Lib.hid (sorted_in (10 - 1 - 1 - 1) (by omega) W.heap.size _ L (by omega) hLl Wv (by omega) hcv hlv)
      have t64 : Fence.wide.fn 64 := trivial
      have t65 : Fence.wide.fn 65 := trivial
      have hd : 1 ≤ 10 - 1 - 1 := by omega
      have hmx : Try.prog.follows .mixedOrders = true := by kernel_rfl
      have HZV := Lib.hid hzv
      have HWL := Lib.hid hwl
      clear hls hlw hlv hcv hwl hzv
      gi_wp2_with (first
        | (gi_at_call 65; refine (CallsIn.inRound l CV.out).mono ?_; rintro e w' ⟨rfl, rfl⟩)
        | (gi_at_call 64; refine (CallsIn.inRound l CS.out).mono ?_; rintro e W5 ⟨v5, rfl, r5, hb5⟩))
      clear hWv CV CS
      obtain ⟨g7, c7, rfl, hc71, hc72, -, -⟩ := row_someM r5 hLl
      unfold maxLen at hc72
      have hbW5 : Below W.heap.size W W5 := hbv.trans (hb5.mono hbv.size)
      obtain ⟨mm, hmm⟩ : ∃ mm, (L.length - 1) / 2 = mm := ⟨_, rfl⟩
      have hml : mm < L.length := by omega
      have hcm : W5.cell? ⟨g7, mm, none⟩ = some (.int .i64 (f x.1)) := (r5.cellAt mm (by omega)).trans (by rw [List.getElem?_map, ← hmm, mid_get hLl, HE.out]; rfl)
      have d1 : ((L.length : Int) - 1).tdiv 2 = (mm : Int) := by rw [Int.tdiv_eq_ediv_of_nonneg (by omega), ← hmm]; omega
      have s4 : IntKind.i64.wrap ((L.length : Int) - 1) = (L.length : Int) - 1 := IntWalk.i64_in _ (by omega)
      have s5 : IntKind.i64.wrap (mm : Int) = (mm : Int) := IntWalk.i64_in _ (by omega)
      have i0 : (0 : Int) ≤ (mm : Int) := by omega
      have i1 : (mm : Int) < (L.length : Int) := by omega
      have hv5 := boxed_below hv hbW5
      have hc := hv5.cell
      have q15 := boxed_below q1 hbW5
      have q25 := boxed_below q2 hbW5
      have q35 := boxed_below q3 hbW5
      have hrow5 := row_below hrow hbW5
      have hz5 := hbW5.size
      have hkf : KeepsFrom w4.heap.size W W5 := keepsFrom_below hbW5
      have hBW5 := hBW.trans (hbW5.mono hsW)
      have hrowd : W5.drew.ownsRow w.heap.size 3 1 v pre.length ((pre.map fun i => f i.1).map (Value.int .i64)) := hrow5
      have hvd : Boxed W5.drew (W1.heap.size + 1) 24 v := hv5
      have bnew := Bx.new W5.drew [.int .i64 (f x.1)] 3
      have hcal := (hv5.alloc (.cells #[.int .i64 (f x.1)] 3)).cell
      have hcm2 : (W5.alloc (.cells #[.int .i64 (f x.1)] 3)).cell? ⟨g7, mm, none⟩ = some (.int .i64 (f x.1)) := (World.cell?_alloc_lt _ _ _ (World.block_lt_of_cell? _ _ hcm)).trans hcm
      have hcp1 : pre.length + 1 ≤ maxLen := by unfold maxLen; omega
      have hcp2 : (pre.length + 1) * 8 ≤ 140737488355328 := by omega
      have HMM := Lib.hid hmm
      clear hmm r5 hb5 hbv
      refine wpIn_region_round hmx (by kernel_rfl) ?_
      refine wpAnyIn_take (i := 1) (v := .slice (some ⟨g7, 0, none⟩) L.length c7) rfl rfl (by kernel_rfl) (by kernel_rfl) (by kernel_rfl) (fun _ _ _ h => h) ⟨Or.inl ⟨by rfl, (by intro w; go_simp; try with_reducible rfl)⟩, fun _ => rfl⟩ ?_
      refine wpAnyIn_take (i := 2) (v := .slice (some ⟨g7, 0, none⟩) L.length c7) rfl rfl (by kernel_rfl) (by kernel_rfl) (by kernel_rfl) (fun _ _ _ h => h) ⟨Or.inl ⟨by rfl, (by intro w; go_simp; try with_reducible rfl)⟩, fun _ => rfl⟩ ?_
      refine wpAnyIn_take (i := 3) (v := .int .i64 (L.length : Int)) rfl rfl (by kernel_rfl) (by kernel_rfl) (by kernel_rfl) (fun _ _ _ h => h) ⟨Or.inl ⟨by rfl, (by intro w; go_simp; try with_reducible rfl)⟩, fun _ => rfl⟩ ?_
      refine wpAnyIn_take (i := 4) (v := .int .i64 ((L.length : Int) - 1)) rfl rfl (by kernel_rfl) (by kernel_rfl) (by kernel_rfl) (fun _ _ _ h => h) ⟨Or.inl ⟨by rfl, (by intro w; go_simp; try with_reducible rfl)⟩, fun _ => rfl⟩ ?_
      refine wpAnyIn_take (i := 5) (v := .int .i64 (mm : Int)) rfl rfl (by kernel_rfl) (by kernel_rfl) (by kernel_rfl) (fun _ _ _ h => h) ⟨Or.inl ⟨by rfl, (by intro w; go_simp; try with_reducible rfl)⟩, fun _ => rfl⟩ ?_
      refine wpAnyIn_take (i := 6) (v := .pointer (some ⟨g7, mm, none⟩)) rfl rfl (by kernel_rfl) (by kernel_rfl) (by kernel_rfl) (fun _ _ _ h => h) ⟨Or.inl ⟨by rfl, (by intro w; go_simp; try with_reducible rfl)⟩, fun _ => rfl⟩ ?_
      refine wpAnyIn_ready (rs := [0, 7]) (by kernel_rfl) (by simp) ?_
      refine AllReadyIn.cons rfl (fun K hK => ?_) ?_
      · go_simp
        refine hK _ _ ?_
        clear hK K
        refine wpAnyIn_ready (rs := [7]) (by kernel_rfl) (by simp) ?_
        refine AllReadyIn.cons rfl (fun K hK => ?_) ?_
        · go_simp
          refine hK _ _ ?_
          clear hK K
          refine wpAnyIn_ready (rs := [8]) (by kernel_rfl) (by simp) ?_
          refine AllReadyIn.cons rfl (fun K hK => ?_) ?_
          · go_simp
            refine hK _ _ ?_
            clear hK K
            refine wpAnyIn_ready (rs := [9]) (by kernel_rfl) (by simp) ?_
            refine AllReadyIn.cons rfl (fun K hK => ?_) ?_
            · refine stepIn_append_src (W5.drew.alloc (.cells #[.int .i64 (f x.1)] 3)) (by first | rfl | kernel_rfl) _ _ _ (by rfl) w.heap.size 3 ti (.int .i64 0) 8 Try.underlying24 hi hz0 hz1 hz2 rfl v pre.length ((pre.map fun i => f i.1).map (Value.int .i64)) (by rfl) (hrowd.alloc _) _ 1 [.int .i64 (f x.1)] (by rfl) (src_boxV bnew rfl) hcp1 hcp2 (by simp; omega) ?_
              intro v6 w5 r6 hg5 hat5
              refine hK _ _ ?_
              clear hK K
              obtain ⟨g5, cap5, rfl⟩ := ownsRow_succ r6
              obtain ⟨hv1, hv2, hr2, hk2, hbl2⟩ := hvd.appended (by decide) hrowd (Nat.le_trans hsW hz5) (by omega) r6 hg5
              have hc1 := hv1.cell
              have hf1 := hv1.frozen
              refine wpAnyIn_ready (rs := [10]) (by kernel_rfl) (by simp) ?_
              refine AllReadyIn.cons rfl (fun K hK => ?_) ?_
              · go_simp
                refine hK _ _ ?_
                clear hK K
                refine wpAnyIn_done (by kernel_rfl) ?_ _
                gi_wp2
                have hne1 : some (W1.heap.size + 1 + 1) ≠ v.ownBlock := by rw [hg]; intro e; have := Option.some.inj e; omega
                have hne2 : some (W1.heap.size + 1 + 1 + 1) ≠ v.ownBlock := by rw [hg]; intro e; have := Option.some.inj e; omega
                have hne3 : some (W1.heap.size + 1 + 1 + 1 + 1) ≠ v.ownBlock := by rw [hg]; intro e; have := Option.some.inj e; omega
                have q1d : Boxed W5.drew (W1.heap.size + 1 + 1) 24 (.slice ao xs.length cap) := q15
                have q2d : Boxed W5.drew (W1.heap.size + 1 + 1 + 1) 3 (.int .i64 m) := q25
                have q3d : Boxed W5.drew (W1.heap.size + 1 + 1 + 1 + 1) 3 (.int .i64 m) := q35
                have e1 := ((q1d.alloc _).kept hg5 hne1).other (B' := W1.heap.size + 1) (by omega) (.slice (some ⟨g5, 0, none⟩) (pre.length + 1) cap5)
                have e2 := ((q2d.alloc _).kept hg5 hne2).other (B' := W1.heap.size + 1) (by omega) (.slice (some ⟨g5, 0, none⟩) (pre.length + 1) cap5)
                have e3 := ((q3d.alloc _).kept hg5 hne3).other (B' := W1.heap.size + 1) (by omega) (.slice (some ⟨g5, 0, none⟩) (pre.length + 1) cap5)
                have hg' : g5 = W1.heap.size ∨ W1.heap.size + 5 ≤ g5 := by
                  rcases hat5 with h | h
                  · rw [hg] at h
                    have h2 : some g5 = some g := h
                    have := Option.some.inj h2
                    omega
                  · have h2 : some g5 = some (W5.drew.alloc (.cells #[.int .i64 (f x.1)] 3)).heap.size := h
                    have := Option.some.inj h2
                    rw [World.size_alloc] at this
                    have h9 : W5.drew.heap.size = W5.heap.size := rfl
                    omega
                refine ⟨hkf.trans (((KeepsOthers.drew W5).trans hk2).from _), ⟨e1.cell.trans q1.cell.symm, e2.cell.trans q2.cell.symm, e3.cell.trans q3.cell.symm⟩, ⟨⟨_, hv2, by simpa using hr2, g5, rfl, hg'⟩, hBW5.trans ((Below.refl _ W5).drew.trans hbl2)⟩, e1, e2, e3⟩
              exact AllReadyIn.nil
            exact AllReadyIn.nil
          exact AllReadyIn.nil
        exact AllReadyIn.nil
      refine AllReadyIn.cons rfl (fun K hK => ?_) ?_
      · go_simp
        refine hK _ _ ?_
        clear hK K
        refine wpAnyIn_ready (rs := [0, 8]) (by kernel_rfl) (by simp) ?_
        refine AllReadyIn.cons rfl (fun K hK => ?_) ?_
        · go_simp
          refine hK _ _ ?_
          clear hK K
          refine wpAnyIn_ready (rs := [8]) (by kernel_rfl) (by simp) ?_
          refine AllReadyIn.cons rfl (fun K hK => ?_) ?_
          · go_simp
            refine hK _ _ ?_
            clear hK K
            refine wpAnyIn_ready (rs := [9]) (by kernel_rfl) (by simp) ?_
            refine AllReadyIn.cons rfl (fun K hK => ?_) ?_
            · refine stepIn_append_src (W5.drew.alloc (.cells #[.int .i64 (f x.1)] 3)) (by first | rfl | kernel_rfl) _ _ _ (by rfl) w.heap.size 3 ti (.int .i64 0) 8 Try.underlying24 hi hz0 hz1 hz2 rfl v pre.length ((pre.map fun i => f i.1).map (Value.int .i64)) (by rfl) (hrowd.alloc _) _ 1 [.int .i64 (f x.1)] (by rfl) (src_boxV bnew rfl) hcp1 hcp2 (by simp; omega) ?_
              intro v6 w5 r6 hg5 hat5
              refine hK _ _ ?_
              clear hK K
              obtain ⟨g5, cap5, rfl⟩ := ownsRow_succ r6
              obtain ⟨hv1, hv2, hr2, hk2, hbl2⟩ := hvd.appended (by decide) hrowd (Nat.le_trans hsW hz5) (by omega) r6 hg5
              have hc1 := hv1.cell
              have hf1 := hv1.frozen
              refine wpAnyIn_ready (rs := [10]) (by kernel_rfl) (by simp) ?_
              refine AllReadyIn.cons rfl (fun K hK => ?_) ?_
              · go_simp
                refine hK _ _ ?_
                clear hK K
                refine wpAnyIn_done (by kernel_rfl) ?_ _
                gi_wp2
                have hne1 : some (W1.heap.size + 1 + 1) ≠ v.ownBlock := by rw [hg]; intro e; have := Option.some.inj e; omega
                have hne2 : some (W1.heap.size + 1 + 1 + 1) ≠ v.ownBlock := by rw [hg]; intro e; have := Option.some.inj e; omega
                have hne3 : some (W1.heap.size + 1 + 1 + 1 + 1) ≠ v.ownBlock := by rw [hg]; intro e; have := Option.some.inj e; omega
                have q1d : Boxed W5.drew (W1.heap.size + 1 + 1) 24 (.slice ao xs.length cap) := q15
                have q2d : Boxed W5.drew (W1.heap.size + 1 + 1 + 1) 3 (.int .i64 m) := q25
                have q3d : Boxed W5.drew (W1.heap.size + 1 + 1 + 1 + 1) 3 (.int .i64 m) := q35
                have e1 := ((q1d.alloc _).kept hg5 hne1).other (B' := W1.heap.size + 1) (by omega) (.slice (some ⟨g5, 0, none⟩) (pre.length + 1) cap5)
                have e2 := ((q2d.alloc _).kept hg5 hne2).other (B' := W1.heap.size + 1) (by omega) (.slice (some ⟨g5, 0, none⟩) (pre.length + 1) cap5)
                have e3 := ((q3d.alloc _).kept hg5 hne3).other (B' := W1.heap.size + 1) (by omega) (.slice (some ⟨g5, 0, none⟩) (pre.length + 1) cap5)
                have hg' : g5 = W1.heap.size ∨ W1.heap.size + 5 ≤ g5 := by
                  rcases hat5 with h | h
                  · rw [hg] at h
                    have h2 : some g5 = some g := h
                    have := Option.some.inj h2
                    omega
                  · have h2 : some g5 = some (W5.drew.alloc (.cells #[.int .i64 (f x.1)] 3)).heap.size := h
                    have := Option.some.inj h2
                    rw [World.size_alloc] at this
                    have h9 : W5.drew.heap.size = W5.heap.size := rfl
                    omega
                refine ⟨hkf.trans (((KeepsOthers.drew W5).trans hk2).from _), ⟨e1.cell.trans q1.cell.symm, e2.cell.trans q2.cell.symm, e3.cell.trans q3.cell.symm⟩, ⟨⟨_, hv2, by simpa using hr2, g5, rfl, hg'⟩, hBW5.trans ((Below.refl _ W5).drew.trans hbl2)⟩, e1, e2, e3⟩
              exact AllReadyIn.nil
            exact AllReadyIn.nil
          exact AllReadyIn.nil
        refine AllReadyIn.cons rfl (fun K hK => ?_) ?_
        · go_simp
          refine hK _ _ ?_
          clear hK K
          refine wpAnyIn_ready (rs := [0]) (by kernel_rfl) (by simp) ?_
          refine AllReadyIn.cons rfl (fun K hK => ?_) ?_
          · go_simp
            refine hK _ _ ?_
            clear hK K
            refine wpAnyIn_ready (rs := [9]) (by kernel_rfl) (by simp) ?_
            refine AllReadyIn.cons rfl (fun K hK => ?_) ?_
            · refine stepIn_append_src (W5.drew.alloc (.cells #[.int .i64 (f x.1)] 3)) (by first | rfl | kernel_rfl) _ _ _ (by rfl) w.heap.size 3 ti (.int .i64 0) 8 Try.underlying24 hi hz0 hz1 hz2 rfl v pre.length ((pre.map fun i => f i.1).map (Value.int .i64)) (by rfl) (hrowd.alloc _) _ 1 [.int .i64 (f x.1)] (by rfl) (src_boxV bnew rfl) hcp1 hcp2 (by simp; omega) ?_
              intro v6 w5 r6 hg5 hat5
              refine hK _ _ ?_
              clear hK K
              obtain ⟨g5, cap5, rfl⟩ := ownsRow_succ r6
              obtain ⟨hv1, hv2, hr2, hk2, hbl2⟩ := hvd.appended (by decide) hrowd (Nat.le_trans hsW hz5) (by omega) r6 hg5
              have hc1 := hv1.cell
              have hf1 := hv1.frozen
              refine wpAnyIn_ready (rs := [10]) (by kernel_rfl) (by simp) ?_
              refine AllReadyIn.cons rfl (fun K hK => ?_) ?_
              · go_simp
                refine hK _ _ ?_
                clear hK K
                refine wpAnyIn_done (by kernel_rfl) ?_ _
                gi_wp2
                have hne1 : some (W1.heap.size + 1 + 1) ≠ v.ownBlock := by rw [hg]; intro e; have := Option.some.inj e; omega
                have hne2 : some (W1.heap.size + 1 + 1 + 1) ≠ v.ownBlock := by rw [hg]; intro e; have := Option.some.inj e; omega
                have hne3 : some (W1.heap.size + 1 + 1 + 1 + 1) ≠ v.ownBlock := by rw [hg]; intro e; have := Option.some.inj e; omega
                have q1d : Boxed W5.drew (W1.heap.size + 1 + 1) 24 (.slice ao xs.length cap) := q15
                have q2d : Boxed W5.drew (W1.heap.size + 1 + 1 + 1) 3 (.int .i64 m) := q25
                have q3d : Boxed W5.drew (W1.heap.size + 1 + 1 + 1 + 1) 3 (.int .i64 m) := q35
                have e1 := ((q1d.alloc _).kept hg5 hne1).other (B' := W1.heap.size + 1) (by omega) (.slice (some ⟨g5, 0, none⟩) (pre.length + 1) cap5)
                have e2 := ((q2d.alloc _).kept hg5 hne2).other (B' := W1.heap.size + 1) (by omega) (.slice (some ⟨g5, 0, none⟩) (pre.length + 1) cap5)
                have e3 := ((q3d.alloc _).kept hg5 hne3).other (B' := W1.heap.size + 1) (by omega) (.slice (some ⟨g5, 0, none⟩) (pre.length + 1) cap5)
                have hg' : g5 = W1.heap.size ∨ W1.heap.size + 5 ≤ g5 := by
                  rcases hat5 with h | h
                  · rw [hg] at h
                    have h2 : some g5 = some g := h
                    have := Option.some.inj h2
                    omega
                  · have h2 : some g5 = some (W5.drew.alloc (.cells #[.int .i64 (f x.1)] 3)).heap.size := h
                    have := Option.some.inj h2
                    rw [World.size_alloc] at this
                    have h9 : W5.drew.heap.size = W5.heap.size := rfl
                    omega
                refine ⟨hkf.trans (((KeepsOthers.drew W5).trans hk2).from _), ⟨e1.cell.trans q1.cell.symm, e2.cell.trans q2.cell.symm, e3.cell.trans q3.cell.symm⟩, ⟨⟨_, hv2, by simpa using hr2, g5, rfl, hg'⟩, hBW5.trans ((Below.refl _ W5).drew.trans hbl2)⟩, e1, e2, e3⟩
              exact AllReadyIn.nil
            exact AllReadyIn.nil
          exact AllReadyIn.nil
        exact AllReadyIn.nil
      exact AllReadyIn.nil
    case done =>
      rintro D ys W hD rfl ⟨⟨⟨v, hv, hrow, _⟩, hB⟩, _, _⟩ hK
      have hc := hv.cell
      rw [fin_up] at hrow
      gi_wp2
      refine ⟨by simp, .inl ⟨_, _, rfl, run_takeDeferred hK, ?_⟩⟩
      exact ⟨_, results_tmp2 rfl _ _ _, v, rfl, Own.of_row (ownsRow_putObj hrow _ hK rfl), hB.trans (belowK_b (w := w) (Nat.le_refl _) W D _ _ (by omega) hK rfl rfl)⟩
    case stop =>
      rintro D c' pre W _ _ h _
      exact h.elim
end Go.Proofs.Ytgokoeomoejcdaa
