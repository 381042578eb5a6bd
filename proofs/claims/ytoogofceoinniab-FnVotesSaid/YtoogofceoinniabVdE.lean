/- The specification's draw for DoesFit: two results in boxes. -/
import Derived.Test.YtoogofceoinniabVdD
import Derived.Test.YtoogofceoinniabVoC
namespace Go.Proofs.Ytoogofceoinniab
open Go.ChangeShapes Go.WideShapes Go.ChangeAt Go.RowKit Go.ChangeMaps
set_option linter.unusedSimpArgs false
set_option linter.unusedVariables false
set_option linter.unusedSimpArgs false
set_option linter.unusedVariables false

theorem tt_bd (a : GArrival) : (0 ≤ loTt a 200 200 ∧ loTt a 200 200 ≤ 1000000) ∧ (-28258 ≤ hiTt a 200 200 ∧ hiTt a 200 200 ≤ 1000000) := by
  unfold loTt hiTt
  cases h : okTt a 200 200 with
  | false => simp
  | true =>
    have ha : askTt a 200 200 = true := by unfold okTt at h; rw [Bool.and_eq_true] at h; exact h.1
    obtain ⟨h1, h2, h3⟩ := askTt_yes ha
    have := ticks_bd h1 h2 h3
    simpa using this
theorem grown_threeV {w w' : World} {o p q : Obj} (h : (((w.alloc o).alloc p).alloc q).grownBy w' (some (w.heap.size + 2))) : Below w.heap.size w w' := by
  have h1 := (((Below.refl w.heap.size w).alloc (Nat.le_refl _) o).alloc (by simp) p).alloc (by simp; omega) q
  exact h1.grown h (by simp; omega) (fun g e => by cases e; omega)
set_option maxRecDepth 100000 in
set_option maxHeartbeats 2000000 in
theorem drawDF (w : World) (B : Nat) (v : Value) (h : CodeArg w B v) :
    Calls Try.prog 53 #[v] w fun e w' => ∃ (a : GArrival) (o : GOrigin), e = .returned (.tuple #[aggA a, aggO o]) ∧ BdA a ∧ wfOrigin o ∧ Below w.heap.size w w' := by
  obtain ⟨h0, ao, n, cap, rfl, h2, h3⟩ := h
  have hcu := Lib.hid (cur_new2V w (.cells #[.int .i64 0, .int .i64 0, .int .i64 0, .int .i64 0, .int .i64 0] 28) (.cells #[.int .i64 0, .int .i64 0, .int .i64 0] 30) B ao n cap h0 h2 h3)
  have d0 := ((Bx.new w [.int .i64 0, .int .i64 0, .int .i64 0, .int .i64 0, .int .i64 0] 28).alloc (.cells #[.int .i64 0, .int .i64 0, .int .i64 0] 30)).alloc (.cells #[.slice ao n cap, .int .i64 0, .int .u64 0] 106)
  have e0 := (Bx.new1 w (.cells #[.int .i64 0, .int .i64 0, .int .i64 0, .int .i64 0, .int .i64 0] 28) [.int .i64 0, .int .i64 0, .int .i64 0] 30).alloc (.cells #[.slice ao n cap, .int .i64 0, .int .u64 0] 106)
  have hz : w.heap.size + 3 ≤ (((w.alloc (.cells #[.int .i64 0, .int .i64 0, .int .i64 0, .int .i64 0, .int .i64 0] 28)).alloc (.cells #[.int .i64 0, .int .i64 0, .int .i64 0] 30)).alloc (.cells #[.slice ao n cap, .int .i64 0, .int .u64 0] 106)).heap.size := by simp
  clear h3
  have hbw : w.heap.size + 2 < (((w.alloc (.cells #[.int .i64 0, .int .i64 0, .int .i64 0, .int .i64 0, .int .i64 0] 28)).alloc (.cells #[.int .i64 0, .int .i64 0, .int .i64 0] 30)).alloc (.cells #[.slice ao n cap, .int .i64 0, .int .u64 0] 106)).heap.size := by omega
  go_enter Try.func53, Try.ntmps53
  go_wp2_with fail
  refine (cur_arrivals _ B (w.heap.size + 2) 0 hcu.out (by omega)).mono ?_
  rintro e w1 ⟨v1, xs, rfl, hS⟩
  obtain ⟨g1, cap1, rfl⟩ := hS.form
  have d1 := d0.grown hS.gr (by simp)
  have e1 := e0.grown hS.gr (by simp)
  have HS1 := Lib.hid hS
  have zw := hS.gr.size
  have hl12 := hS.len
  clear hS hcu d0 e0
  by_cases hl : xs.length = 0
  · go_wp2_with fail
    refine (cur_quake _ B (w.heap.size + 2) _ HS1.out.cur (by omega)).mono ?_
    rintro e w2 ⟨oq, rfl, hoq, hc, hg⟩
    have HS2 := Lib.hid (HS1.out.draw hbw hg hc)
    have d2 := d1.grown hg (by simp)
    have e2 := e1.grown hg (by simp)
    clear hc hg
    have c0 := d2.2 0 _ rfl
    have c1 := d2.2 1 _ rfl
    have c2 := d2.2 2 _ rfl
    have c3 := d2.2 3 _ rfl
    have c4 := d2.2 4 _ rfl
    have cf := d2.1.2
    have k0 := e2.2 0 _ rfl
    have k1 := e2.2 1 _ rfl
    have k2 := e2.2 2 _ rfl
    have kf := e2.1.2
    have dz := d2.put5 (.int .i64 1) (.int .i64 0) (.int .i64 0) (.int .i64 40) (.int .i64 0)
    have ez := e2.other5 (g := w.heap.size) (by omega) (.int .i64 1) (.int .i64 0) (.int .i64 0) (.int .i64 40) (.int .i64 0)
    have x0 := ez.2 0 _ rfl
    have x1 := ez.2 1 _ rfl
    have x2 := ez.2 2 _ rfl
    have xf := ez.1.2
    have dzz := dz.other3 (g := w.heap.size + 1) (by omega) (.int .i64 oq.pX) (.int .i64 oq.pY) (.int .i64 oq.pTick)
    have ezz := ez.put3 (.int .i64 oq.pX) (.int .i64 oq.pY) (.int .i64 oq.pTick)
    have hlow := below_put3 (below_put5 (grown_threeV HS2.out.gr) (b := w.heap.size) (Nat.le_refl _) (.int .i64 1) (.int .i64 0) (.int .i64 0) (.int .i64 40) (.int .i64 0)) (b := w.heap.size + 1) (by omega) (.int .i64 oq.pX) (.int .i64 oq.pY) (.int .i64 oq.pTick)
    go_wp2
    have y0 := dzz.2 0 _ rfl
    have y1 := dzz.2 1 _ rfl
    have y2 := dzz.2 2 _ rfl
    have y3 := dzz.2 3 _ rfl
    have y4 := dzz.2 4 _ rfl
    have u0 := ezz.2 0 _ rfl
    have u1 := ezz.2 1 _ rfl
    have u2 := ezz.2 2 _ rfl
    exact bodyPost_ret (v := .tuple #[.agg #[.int .i64 1, .int .i64 0, .int .i64 0, .int .i64 40, .int .i64 0], aggO oq]) (by simp [results, Try.results53, go_sem, y0, y1, y2, y3, y4, u0, u1, u2]) rfl ⟨⟨1, 0, 0, 40, 0⟩, oq, rfl, by unfold BdA; decide, hoq.wf, hlow⟩
  · have hpos : 1 ≤ (xs.length : Int) := by omega
    go_wp2_with fail
    refine (cur_pick _ B (w.heap.size + 2) _ (xs.length : Int) HS1.out.cur (by omega) (by omega) (by omega)).mono ?_
    rintro e w2 ⟨r, rfl, hr0, hr1, hc, hg⟩
    have HS2 := Lib.hid (HS1.out.draw hbw hg hc)
    have d2 := d1.grown hg (by simp)
    have e2 := e1.grown hg (by simp)
    clear hc hg
    obtain ⟨q, rfl⟩ : ∃ q : Nat, r = q := ⟨r.toNat, by omega⟩
    obtain ⟨t, ht⟩ := get_of_lt (l := xs) (k := q) (by omega)
    have hbt := HS2.out.bd t (List.mem_of_getElem? ht)
    obtain ⟨ao, cap9, e9, -, -, -, hcc⟩ := HS2.out.lst
    simp only [Value.slice.injEq, true_and] at e9
    obtain ⟨rfl, rfl⟩ := e9
    obtain ⟨g9, off9, e10, -, hcell⟩ := hcc q t ht
    simp only [Option.some.injEq, Addr.mk.injEq, and_true] at e10
    obtain ⟨rfl, rfl⟩ := e10
    have t0 : w2.cell? ⟨g1, q * 5, none⟩ = some (.int .i64 t.pId) := by have := hcell 0 _ rfl; simpa using this
    have t1 : w2.cell? ⟨g1, q * 5 + 1, none⟩ = some (.int .i64 t.pX) := by have := hcell 1 _ rfl; simpa using this
    have t2 : w2.cell? ⟨g1, q * 5 + 2, none⟩ = some (.int .i64 t.pY) := by have := hcell 2 _ rfl; simpa using this
    have t3 : w2.cell? ⟨g1, q * 5 + 3, none⟩ = some (.int .i64 t.pTick) := by have := hcell 3 _ rfl; simpa using this
    have t4 : w2.cell? ⟨g1, q * 5 + 4, none⟩ = some (.int .i64 t.pError) := by have := hcell 4 _ rfl; simpa using this
    clear hcell hcc ht
    go_wp2_with fail
    have HS3 := Lib.hid (HS2.out.alloc (.cells #[.int .i64 t.pId, .int .i64 t.pX, .int .i64 t.pY, .int .i64 t.pTick, .int .i64 t.pError] 28))
    have d3 := d2.alloc (.cells #[.int .i64 t.pId, .int .i64 t.pX, .int .i64 t.pY, .int .i64 t.pTick, .int .i64 t.pError] 28)
    have e3 := e2.alloc (.cells #[.int .i64 t.pId, .int .i64 t.pX, .int .i64 t.pY, .int .i64 t.pTick, .int .i64 t.pError] 28)
    have a3 := Bx.new w2 [.int .i64 t.pId, .int .i64 t.pX, .int .i64 t.pY, .int .i64 t.pTick, .int .i64 t.pError] 28
    have zw2 := HS2.out.gr.size
    have htl := tt_bd t
    clear HS2 d2 e2
    refine (specTt t _ 200 200 _ _ rfl (Nat.le_refl _) (by show sz1Arrival t ≤ 1048576; simp [sz1Arrival]) hbt.wf (by unfold I64; omega) (by unfold I64; omega)).mono ?_
    rintro e w4 ⟨rfl, hB⟩
    have HS4 := Lib.hid (HS3.out.below hB)
    have d4 := d3.below hB
    have e4 := e3.below hB
    have a4 := a3.below hB
    clear HS3 d3 e3 a3 hB
    generalize loTt t 200 200 = lo at *
    generalize hiTt t 200 200 = hi at *
    obtain ⟨⟨lo0, lo1⟩, ⟨hi0, hi1⟩⟩ := htl
    cases okTt t 200 200
    · go_wp2_with fail
      have aq := a4.drwV
      have dq := d4.drwV
      have eq := e4.drwV
      have HSd := Lib.hid (HS4.out.below (Below.refl _ _).drew)
      have hn1 : w.heap.size ≠ w2.heap.size := by omega
      have hn2 : w.heap.size + 1 ≠ w2.heap.size := by omega
      have hn3 : w.heap.size ≠ w.heap.size + 1 := by omega
      have hn4 : w.heap.size + 1 ≠ w.heap.size := by omega
      have hn5 : some w2.heap.size ≠ some (w.heap.size + 2) := by simp; omega
      have o0 := aq.2 0 _ rfl; have o1 := aq.2 1 _ rfl; have o2 := aq.2 2 _ rfl; have o3 := aq.2 3 _ rfl; have o4 := aq.2 4 _ rfl
      go_region_held3 (fun w' => w'.cell? ⟨w2.heap.size, 0, none⟩ = some (.int .i64 t.pId) ∧ w'.cell? ⟨w2.heap.size, 1, none⟩ = some (.int .i64 t.pX) ∧ w'.cell? ⟨w2.heap.size, 2, none⟩ = some (.int .i64 t.pY) ∧ w'.cell? ⟨w2.heap.size, 3, none⟩ = some (.int .i64 t.pTick) ∧ w'.cell? ⟨w2.heap.size, 4, none⟩ = some (.int .i64 t.pError))
        (first
          | with_reducible exact ⟨o0, o1, o2, o3, o4⟩
          | with_reducible exact ⟨f0, f1, f2, f3, f4⟩
          | with_reducible exact ⟨g0, g1, g2, g3, g4⟩
          | with_reducible exact ⟨h0, h1, h2, h3, h4⟩)
        (first
          | (go_at_call 85; (with_reducible refine (cur_quake _ B (w.heap.size + 2) _ HSd.out.cur (by omega)).mono ?_); rintro e w5 ⟨oq, rfl, hoq, hc, hg⟩
             have HS5 := Lib.hid (HSd.out.draw hbw hg hc); have d5 := dq.grown hg (by simp); have e5 := eq.grown hg (by simp); have a5 := aq.grown hg hn5
             have f0 := a5.2 0 _ rfl; have f1 := a5.2 1 _ rfl; have f2 := a5.2 2 _ rfl; have f3 := a5.2 3 _ rfl; have f4 := a5.2 4 _ rfl
             have c0 := d5.2 0 _ rfl; have c1 := d5.2 1 _ rfl; have c2 := d5.2 2 _ rfl; have c3 := d5.2 3 _ rfl; have c4 := d5.2 4 _ rfl; have cf := d5.1.2
             have az := a5.other5 (g := w.heap.size) hn1 (.int .i64 t.pId) (.int .i64 t.pX) (.int .i64 t.pY) (.int .i64 t.pTick) (.int .i64 t.pError); have g0 := az.2 0 _ rfl; have g1 := az.2 1 _ rfl; have g2 := az.2 2 _ rfl; have g3 := az.2 3 _ rfl; have g4 := az.2 4 _ rfl
             have dz := d5.put5 (.int .i64 t.pId) (.int .i64 t.pX) (.int .i64 t.pY) (.int .i64 t.pTick) (.int .i64 t.pError); have ez := e5.other5 (g := w.heap.size) hn3 (.int .i64 t.pId) (.int .i64 t.pX) (.int .i64 t.pY) (.int .i64 t.pTick) (.int .i64 t.pError); have k0 := ez.2 0 _ rfl; have k1 := ez.2 1 _ rfl; have k2 := ez.2 2 _ rfl; have kf := ez.1.2
             have azz := az.other3 (g := w.heap.size + 1) hn2 (.int .i64 oq.pX) (.int .i64 oq.pY) (.int .i64 oq.pTick); have h0 := azz.2 0 _ rfl; have h1 := azz.2 1 _ rfl; have h2 := azz.2 2 _ rfl; have h3 := azz.2 3 _ rfl; have h4 := azz.2 4 _ rfl
             have dzz := dz.other3 (g := w.heap.size + 1) hn4 (.int .i64 oq.pX) (.int .i64 oq.pY) (.int .i64 oq.pTick); have ezz := ez.put3 (.int .i64 oq.pX) (.int .i64 oq.pY) (.int .i64 oq.pTick)
             have hlow := below_put3 (below_put5 (grown_threeV HS5.out.gr) (b := w.heap.size) (Nat.le_refl _) (.int .i64 t.pId) (.int .i64 t.pX) (.int .i64 t.pY) (.int .i64 t.pTick) (.int .i64 t.pError)) (b := w.heap.size + 1) (by omega) (.int .i64 oq.pX) (.int .i64 oq.pY) (.int .i64 oq.pTick)))
      all_goals (
        clear o0 o1 o2 o3 o4 f0 f1 f2 f3 f4 g0 g1 g2 g3 g4 h0 h1 h2 h3 h4 c0 c1 c2 c3 c4 cf k0 k1 k2 kf az azz dz ez a5 d5 e5 aq dq eq
        have y0 := dzz.2 0 _ rfl; have y1 := dzz.2 1 _ rfl; have y2 := dzz.2 2 _ rfl; have y3 := dzz.2 3 _ rfl; have y4 := dzz.2 4 _ rfl; have u0 := ezz.2 0 _ rfl; have u1 := ezz.2 1 _ rfl; have u2 := ezz.2 2 _ rfl
        go_wp2
        exact bodyPost_ret (v := .tuple #[aggA t, aggO oq]) (by simp [results, Try.results53, go_sem, y0, y1, y2, y3, y4, u0, u1, u2]) rfl ⟨t, oq, rfl, hbt, hoq.wf, hlow⟩)
    · go_wp2_with fail
      refine (cur_one _ B (w.heap.size + 2) _ 2 HS4.out.cur (by omega) (by omega) (by omega)).mono ?_
      rintro e w5 ⟨y, rfl, hc, hg⟩
      have HS5 := Lib.hid (HS4.out.draw hbw hg hc)
      have d5 := d4.grown hg (by simp)
      have e5 := e4.grown hg (by simp)
      have a5 := a4.grown hg (by simp; omega)
      clear hc hg
      cases y
      · go_wp2_with fail
        have aq := a5.drwV
        have dq := d5.drwV
        have eq := e5.drwV
        have HSd := Lib.hid (HS5.out.below (Below.refl _ _).drew)
        have hn1 : w.heap.size ≠ w2.heap.size := by omega
        have hn2 : w.heap.size + 1 ≠ w2.heap.size := by omega
        have hn3 : w.heap.size ≠ w.heap.size + 1 := by omega
        have hn4 : w.heap.size + 1 ≠ w.heap.size := by omega
        have hn5 : some w2.heap.size ≠ some (w.heap.size + 2) := by simp; omega
        have o0 := aq.2 0 _ rfl; have o1 := aq.2 1 _ rfl; have o2 := aq.2 2 _ rfl; have o3 := aq.2 3 _ rfl; have o4 := aq.2 4 _ rfl
        go_region_held3 (fun w' => w'.cell? ⟨w2.heap.size, 0, none⟩ = some (.int .i64 t.pId) ∧ w'.cell? ⟨w2.heap.size, 1, none⟩ = some (.int .i64 t.pX) ∧ w'.cell? ⟨w2.heap.size, 2, none⟩ = some (.int .i64 t.pY) ∧ w'.cell? ⟨w2.heap.size, 3, none⟩ = some (.int .i64 t.pTick) ∧ w'.cell? ⟨w2.heap.size, 4, none⟩ = some (.int .i64 t.pError))
          (first
            | with_reducible exact ⟨o0, o1, o2, o3, o4⟩
            | with_reducible exact ⟨f0, f1, f2, f3, f4⟩
            | with_reducible exact ⟨g0, g1, g2, g3, g4⟩
            | with_reducible exact ⟨h0, h1, h2, h3, h4⟩)
          (first
            | (go_at_call 85; (with_reducible refine (cur_quake _ B (w.heap.size + 2) _ HSd.out.cur (by omega)).mono ?_); rintro e w6 ⟨oq, rfl, hoq, hc, hg⟩
               have HS6 := Lib.hid (HSd.out.draw hbw hg hc); have d6 := dq.grown hg (by simp); have e6 := eq.grown hg (by simp); have a6 := aq.grown hg hn5
               have f0 := a6.2 0 _ rfl; have f1 := a6.2 1 _ rfl; have f2 := a6.2 2 _ rfl; have f3 := a6.2 3 _ rfl; have f4 := a6.2 4 _ rfl
               have c0 := d6.2 0 _ rfl; have c1 := d6.2 1 _ rfl; have c2 := d6.2 2 _ rfl; have c3 := d6.2 3 _ rfl; have c4 := d6.2 4 _ rfl; have cf := d6.1.2
               have az := a6.other5 (g := w.heap.size) hn1 (.int .i64 t.pId) (.int .i64 t.pX) (.int .i64 t.pY) (.int .i64 t.pTick) (.int .i64 t.pError); have g0 := az.2 0 _ rfl; have g1 := az.2 1 _ rfl; have g2 := az.2 2 _ rfl; have g3 := az.2 3 _ rfl; have g4 := az.2 4 _ rfl
               have dz := d6.put5 (.int .i64 t.pId) (.int .i64 t.pX) (.int .i64 t.pY) (.int .i64 t.pTick) (.int .i64 t.pError); have ez := e6.other5 (g := w.heap.size) hn3 (.int .i64 t.pId) (.int .i64 t.pX) (.int .i64 t.pY) (.int .i64 t.pTick) (.int .i64 t.pError); have k0 := ez.2 0 _ rfl; have k1 := ez.2 1 _ rfl; have k2 := ez.2 2 _ rfl; have kf := ez.1.2
               have azz := az.other3 (g := w.heap.size + 1) hn2 (.int .i64 oq.pX) (.int .i64 oq.pY) (.int .i64 oq.pTick); have h0 := azz.2 0 _ rfl; have h1 := azz.2 1 _ rfl; have h2 := azz.2 2 _ rfl; have h3 := azz.2 3 _ rfl; have h4 := azz.2 4 _ rfl
               have dzz := dz.other3 (g := w.heap.size + 1) hn4 (.int .i64 oq.pX) (.int .i64 oq.pY) (.int .i64 oq.pTick); have ezz := ez.put3 (.int .i64 oq.pX) (.int .i64 oq.pY) (.int .i64 oq.pTick)
               have hlow := below_put3 (below_put5 (grown_threeV HS6.out.gr) (b := w.heap.size) (Nat.le_refl _) (.int .i64 t.pId) (.int .i64 t.pX) (.int .i64 t.pY) (.int .i64 t.pTick) (.int .i64 t.pError)) (b := w.heap.size + 1) (by omega) (.int .i64 oq.pX) (.int .i64 oq.pY) (.int .i64 oq.pTick)))
        all_goals (
          clear o0 o1 o2 o3 o4 f0 f1 f2 f3 f4 g0 g1 g2 g3 g4 h0 h1 h2 h3 h4 c0 c1 c2 c3 c4 cf k0 k1 k2 kf az azz dz ez a6 d6 e6 aq dq eq
          have y0 := dzz.2 0 _ rfl; have y1 := dzz.2 1 _ rfl; have y2 := dzz.2 2 _ rfl; have y3 := dzz.2 3 _ rfl; have y4 := dzz.2 4 _ rfl; have u0 := ezz.2 0 _ rfl; have u1 := ezz.2 1 _ rfl; have u2 := ezz.2 2 _ rfl
          go_wp2
          exact bodyPost_ret (v := .tuple #[aggA t, aggO oq]) (by simp [results, Try.results53, go_sem, y0, y1, y2, y3, y4, u0, u1, u2]) rfl ⟨t, oq, rfl, hbt, hoq.wf, hlow⟩)
      · go_wp2_with fail
        have aq := a5.drwV
        have zW := HS5.out.cur.lt
        have AA : Bx (w5.alloc (.cells #[.int .i64 lo, .int .i64 hi, .int .i64 (lo - 1), .int .i64 (hi + 1)] 3)).drew w2.heap.size [.int .i64 t.pId, .int .i64 t.pX, .int .i64 t.pY, .int .i64 t.pTick, .int .i64 t.pError] := (a5.alloc (.cells #[.int .i64 lo, .int .i64 hi, .int .i64 (lo - 1), .int .i64 (hi + 1)] 3)).drwV
        have DD : Bx (w5.alloc (.cells #[.int .i64 lo, .int .i64 hi, .int .i64 (lo - 1), .int .i64 (hi + 1)] 3)).drew w.heap.size [.int .i64 0, .int .i64 0, .int .i64 0, .int .i64 0, .int .i64 0] := (d5.alloc (.cells #[.int .i64 lo, .int .i64 hi, .int .i64 (lo - 1), .int .i64 (hi + 1)] 3)).drwV
        have EE : Bx (w5.alloc (.cells #[.int .i64 lo, .int .i64 hi, .int .i64 (lo - 1), .int .i64 (hi + 1)] 3)).drew (w.heap.size + 1) [.int .i64 0, .int .i64 0, .int .i64 0] := (e5.alloc (.cells #[.int .i64 lo, .int .i64 hi, .int .i64 (lo - 1), .int .i64 (hi + 1)] 3)).drwV
        have HSd : Hid (Adl (((w.alloc (.cells #[.int .i64 0, .int .i64 0, .int .i64 0, .int .i64 0, .int .i64 0] 28)).alloc (.cells #[.int .i64 0, .int .i64 0, .int .i64 0] 30)).alloc (.cells #[.slice ao n cap, .int .i64 0, .int .u64 0] 106)) (w5.alloc (.cells #[.int .i64 lo, .int .i64 hi, .int .i64 (lo - 1), .int .i64 (hi + 1)] 3)).drew B (w.heap.size + 2) _ (.slice (some ⟨g1, 0, none⟩) xs.length cap1) xs) := Lib.hid ((HS5.out.alloc (.cells #[.int .i64 lo, .int .i64 hi, .int .i64 (lo - 1), .int .i64 (hi + 1)] 3)).below (Below.refl _ _).drew)
        have OI : Hid (OfInts (w5.alloc (.cells #[.int .i64 lo, .int .i64 hi, .int .i64 (lo - 1), .int .i64 (hi + 1)] 3)).drew (w.heap.size + 2) (.slice (some ⟨w5.heap.size, 0, none⟩) 4 4) [lo, hi, lo - 1, hi + 1]) := Lib.hid (ints_lit w5 (w.heap.size + 2) zW 3 4 [lo, hi, lo - 1, hi + 1])
        have s44 : IntKind.i64.wrap (lo - 1) = lo - 1 := IntWalk.i64_in _ (by omega)
        have s46 : IntKind.i64.wrap (hi + 1) = hi + 1 := IntWalk.i64_in _ (by omega)
        have hn1 : w.heap.size ≠ w2.heap.size := by omega
        have hn2 : w.heap.size + 1 ≠ w2.heap.size := by omega
        have hn3 : w.heap.size ≠ w.heap.size + 1 := by omega
        have hn4 : w.heap.size + 1 ≠ w.heap.size := by omega
        have hn5 : some w2.heap.size ≠ some (w.heap.size + 2) := by simp; omega
        have o0 := aq.2 0 _ rfl; have o1 := aq.2 1 _ rfl; have o2 := aq.2 2 _ rfl; have o3 := aq.2 3 _ rfl; have o4 := aq.2 4 _ rfl; have p0 := AA.2 0 _ rfl; have p1 := AA.2 1 _ rfl; have p2 := AA.2 2 _ rfl; have p3 := AA.2 3 _ rfl; have p4 := AA.2 4 _ rfl
        go_region_held3 (fun w' => w'.cell? ⟨w2.heap.size, 0, none⟩ = some (.int .i64 t.pId) ∧ w'.cell? ⟨w2.heap.size, 1, none⟩ = some (.int .i64 t.pX) ∧ w'.cell? ⟨w2.heap.size, 2, none⟩ = some (.int .i64 t.pY) ∧ w'.cell? ⟨w2.heap.size, 3, none⟩ = some (.int .i64 t.pTick) ∧ w'.cell? ⟨w2.heap.size, 4, none⟩ = some (.int .i64 t.pError))
          (first
            | with_reducible exact ⟨o0, o1, o2, o3, o4⟩
            | with_reducible exact ⟨p0, p1, p2, p3, p4⟩
            | with_reducible exact ⟨f0, f1, f2, f3, f4⟩
            | with_reducible exact ⟨g0, g1, g2, g3, g4⟩
            | with_reducible exact ⟨h0, h1, h2, h3, h4⟩)
          (first
            | (go_at_call 84; (with_reducible refine (cur_among _ B (w.heap.size + 2) _ HSd.out.cur (by omega) _ _ OI.out (by simp) (by simp)).mono ?_); rintro e w6 ⟨am, rfl, hx, hc, hg⟩
               have hba : -28259 ≤ am ∧ am ≤ 1000001 := (by simp only [List.mem_cons, List.mem_nil_iff, or_false] at hx; omega)
               have HS6 := Lib.hid (HSd.out.draw hbw hg hc); have d6 := DD.grown hg (by simp); have e6 := EE.grown hg (by simp); have a6 := AA.grown hg hn5
               have f0 := a6.2 0 _ rfl; have f1 := a6.2 1 _ rfl; have f2 := a6.2 2 _ rfl; have f3 := a6.2 3 _ rfl; have f4 := a6.2 4 _ rfl
               have c0 := d6.2 0 _ rfl; have c1 := d6.2 1 _ rfl; have c2 := d6.2 2 _ rfl; have c3 := d6.2 3 _ rfl; have c4 := d6.2 4 _ rfl; have cf := d6.1.2
               have az := a6.other5 (g := w.heap.size) hn1 (.int .i64 t.pId) (.int .i64 t.pX) (.int .i64 t.pY) (.int .i64 t.pTick) (.int .i64 t.pError); have g0 := az.2 0 _ rfl; have g1 := az.2 1 _ rfl; have g2 := az.2 2 _ rfl; have g3 := az.2 3 _ rfl; have g4 := az.2 4 _ rfl
               have dz := d6.put5 (.int .i64 t.pId) (.int .i64 t.pX) (.int .i64 t.pY) (.int .i64 t.pTick) (.int .i64 t.pError); have ez := e6.other5 (g := w.heap.size) hn3 (.int .i64 t.pId) (.int .i64 t.pX) (.int .i64 t.pY) (.int .i64 t.pTick) (.int .i64 t.pError); have k0 := ez.2 0 _ rfl; have k1 := ez.2 1 _ rfl; have k2 := ez.2 2 _ rfl; have kf := ez.1.2
               have azz := az.other3 (g := w.heap.size + 1) hn2 (.int .i64 200) (.int .i64 200) (.int .i64 am); have h0 := azz.2 0 _ rfl; have h1 := azz.2 1 _ rfl; have h2 := azz.2 2 _ rfl; have h3 := azz.2 3 _ rfl; have h4 := azz.2 4 _ rfl
               have dzz := dz.other3 (g := w.heap.size + 1) hn4 (.int .i64 200) (.int .i64 200) (.int .i64 am); have ezz := ez.put3 (.int .i64 200) (.int .i64 200) (.int .i64 am)
               have hlow := below_put3 (below_put5 (grown_threeV HS6.out.gr) (b := w.heap.size) (Nat.le_refl _) (.int .i64 t.pId) (.int .i64 t.pX) (.int .i64 t.pY) (.int .i64 t.pTick) (.int .i64 t.pError)) (b := w.heap.size + 1) (by omega) (.int .i64 200) (.int .i64 200) (.int .i64 am)))
        all_goals (
          clear o0 o1 o2 o3 o4 p0 p1 p2 p3 p4 f0 f1 f2 f3 f4 g0 g1 g2 g3 g4 h0 h1 h2 h3 h4 c0 c1 c2 c3 c4 cf k0 k1 k2 kf az azz dz ez a6 d6 e6 aq AA DD EE
          have y0 := dzz.2 0 _ rfl; have y1 := dzz.2 1 _ rfl; have y2 := dzz.2 2 _ rfl; have y3 := dzz.2 3 _ rfl; have y4 := dzz.2 4 _ rfl; have u0 := ezz.2 0 _ rfl; have u1 := ezz.2 1 _ rfl; have u2 := ezz.2 2 _ rfl
          go_wp2
          exact bodyPost_ret (v := .tuple #[aggA t, aggO ⟨200, 200, am⟩]) (by simp [results, Try.results53, go_sem, y0, y1, y2, y3, y4, u0, u1, u2]) rfl ⟨t, ⟨200, 200, am⟩, rfl, hbt, by unfold wfOrigin I64; simp only; omega, hlow⟩)
end Go.Proofs.Ytoogofceoinniab
