/- Votes: the program's ticks at a place; who is left. -/
import Derived.Test.YtoogofceoinniabVpF
import Derived.Test.YtoogofceoinniabVoI
namespace Go.Proofs.Ytoogofceoinniab
open Go.ChangeShapes Go.WideShapes Go.ChangeAt Go.RowKit Go.ChangeMaps Go.Sort Go.Shelf
set_option linter.unusedSimpArgs false
set_option linter.unusedVariables false
set_option linter.unusedSimpArgs false
set_option linter.unusedVariables false

set_option maxRecDepth 100000 in
set_option maxHeartbeats 2000000 in
theorem implTt (a : GArrival) (v : Value) (x y : Int) (w : World) (B : Nat) (h : ArrivalVL w B v a) (hB : B ≤ w.heap.size) (_ : sz1Arrival a ≤ 1048576) (hw : wfArrival a) (_ : I64 x) (_ : I64 y) :
    Calls Try.prog 29 #[v, .int .i64 x, .int .i64 y] w fun e w' => e = .returned (.tuple #[.int .i64 (loTt a x y), .int .i64 (hiTt a x y), .bool (okTt a x y)]) ∧ Below w.heap.size w w' := by
  obtain rfl := h.form
  clear h
  have N1 := (Below.refl w.heap.size w).alloc (Nat.le_refl _) (objA a)
  have CO := Lib.hid (fun u W hu => implOneA a u W hu)
  have CP := Lib.hid (fun u W hu => implPlace x y u W hu)
  cases h1 : oneAr a with
  | false =>
    have C1 := Lib.hid (fun W => CO.out false W h1)
    have HF := Lib.hid (noTt (badTt (a := a) (x := x) (y := y) (by unfold askTt; rw [h1]; rfl)))
    clear h1
    go_enter Try.func29, Try.ntmps29
    go_wp2_with fail
    refine (C1.out _).mono ?_
    rintro e w1 ⟨rfl, hb⟩
    go_wp2
    go_ret3
    exact ⟨HF.out, N1.trans (hb.mono N1.size)⟩
  | true =>
  have bA := Bx.new w [.int .i64 a.pId, .int .i64 a.pX, .int .i64 a.pY, .int .i64 a.pTick, .int .i64 a.pError] 28
  have C1 := Lib.hid (fun W => CO.out true W h1)
  cases h2 : plcB x y with
  | false =>
    have C2 := Lib.hid (fun W => CP.out false W h2)
    have HF := Lib.hid (noTt (badTt (a := a) (x := x) (y := y) (by unfold askTt; rw [h2, Bool.and_false])))
    clear h1 h2 bA
    go_enter Try.func29, Try.ntmps29
    go_wp2_with fail
    refine (C1.out _).mono ?_
    rintro e w1 ⟨rfl, hb⟩
    have N2 := N1.trans (hb.mono N1.size)
    clear hb
    go_wp2_with fail
    refine (C2.out _).mono ?_
    rintro e w2 ⟨rfl, q2⟩
    subst q2
    go_wp2
    go_ret3
    exact ⟨HF.out, N2⟩
  | true =>
  have C2 := Lib.hid (fun W => CP.out true W h2)
  have hask : askTt a x y = true := by unfold askTt; rw [h1, h2]; rfl
  obtain ⟨ha, hx, hy⟩ := askTt_yes hask
  obtain ⟨⟨l0, l1⟩, ⟨g0, g1⟩⟩ := ticks_bd ha hx hy
  obtain ⟨l, hl⟩ : ∃ l, loT a x y = l := ⟨_, rfl⟩
  obtain ⟨g, hg⟩ : ∃ g, hiT a x y = g := ⟨_, rfl⟩
  rw [hl] at l0 l1
  rw [hg] at g0 g1
  have CT := Lib.hid (fun W => implSpan a x y l g W ha hx hy hl hg)
  have CE := Lib.hid (fun u W hu => spanEmpty l g u W hu)
  by_cases hle : g < l
  case pos =>
    have HF := Lib.hid (noTt (gapTt (a := a) (x := x) (y := y) (by rw [hl, hg]; omega)))
    have CE1 := Lib.hid (fun W => CE.out true W (decide_eq_true hle))
    clear h1 h2 hask ha hx hy hl hg hle
    go_enter Try.func29, Try.ntmps29
    go_wp2_with fail
    refine (C1.out _).mono ?_
    rintro e w1 ⟨rfl, hb⟩
    have N2 := N1.trans (hb.mono N1.size)
    have bA1 := bA.below hb
    clear hb bA N1
    go_wp2_with fail
    refine (C2.out _).mono ?_
    rintro e w2 ⟨rfl, q2⟩
    subst q2
    have a0 := bA1.2 0 _ rfl
    have a1 := bA1.2 1 _ rfl
    have a2 := bA1.2 2 _ rfl
    have a3 := bA1.2 3 _ rfl
    have a4 := bA1.2 4 _ rfl
    clear bA1
    go_wp2_with fail
    refine (CT.out _).mono ?_
    rintro e w3 ⟨rfl, hb⟩
    have N3 := N2.trans (hb.mono N2.size)
    clear hb a0 a1 a2 a3 a4 N2
    obtain ⟨W4, hW4⟩ : ∃ W4, w3.alloc (.cells #[.int .i64 l, .int .i64 g] 88) = W4 := ⟨_, rfl⟩
    have N4 : Below w.heap.size w W4 := hW4 ▸ N3.alloc N3.size _
    have bS : Bx W4 w3.heap.size [.int .i64 l, .int .i64 g] := hW4 ▸ Bx.new w3 [.int .i64 l, .int .i64 g] 88
    have s0 := bS.2 0 _ rfl
    have s1 := bS.2 1 _ rfl
    go_wp2_with fail
    clear hW4
    refine (CE1.out _).mono ?_
    rintro e w5 ⟨rfl, hb⟩
    have N5 := N4.trans (hb.mono N4.size)
    have bS1 := bS.below hb
    clear hb N4 bS s0 s1
    have s0 := bS1.2 0 _ rfl
    have s1 := bS1.2 1 _ rfl
    go_wp2
    go_ret3
    exact ⟨HF.out, N5⟩
  case neg =>
    have HF := Lib.hid (yesTt hask hl hg (by omega))
    have CE1 := Lib.hid (fun W => CE.out false W (decide_eq_false hle))
    clear h1 h2 hask ha hx hy hl hg
    go_enter Try.func29, Try.ntmps29
    go_wp2_with fail
    refine (C1.out _).mono ?_
    rintro e w1 ⟨rfl, hb⟩
    have N2 := N1.trans (hb.mono N1.size)
    have bA1 := bA.below hb
    clear hb bA N1
    go_wp2_with fail
    refine (C2.out _).mono ?_
    rintro e w2 ⟨rfl, q2⟩
    subst q2
    have a0 := bA1.2 0 _ rfl
    have a1 := bA1.2 1 _ rfl
    have a2 := bA1.2 2 _ rfl
    have a3 := bA1.2 3 _ rfl
    have a4 := bA1.2 4 _ rfl
    clear bA1
    go_wp2_with fail
    refine (CT.out _).mono ?_
    rintro e w3 ⟨rfl, hb⟩
    have N3 := N2.trans (hb.mono N2.size)
    clear hb a0 a1 a2 a3 a4 N2
    obtain ⟨W4, hW4⟩ : ∃ W4, w3.alloc (.cells #[.int .i64 l, .int .i64 g] 88) = W4 := ⟨_, rfl⟩
    have N4 : Below w.heap.size w W4 := hW4 ▸ N3.alloc N3.size _
    have bS : Bx W4 w3.heap.size [.int .i64 l, .int .i64 g] := hW4 ▸ Bx.new w3 [.int .i64 l, .int .i64 g] 88
    have s0 := bS.2 0 _ rfl
    have s1 := bS.2 1 _ rfl
    go_wp2_with fail
    clear hW4
    refine (CE1.out _).mono ?_
    rintro e w5 ⟨rfl, hb⟩
    have N5 := N4.trans (hb.mono N4.size)
    have bS1 := bS.below hb
    clear hb N4 bS s0 s1
    have s0 := bS1.2 0 _ rfl
    have s1 := bS1.2 1 _ rfl
    go_wp2_with fail
    go_quiet (fail)
    go_wp2
    go_ret3
    exact ⟨HF.out, drewN_b N5 _⟩
theorem restV_keep (xs : List GArrival) (o : GOrigin) : keepP (fitV · o) xs = restV xs o := rfl
set_option maxRecDepth 100000 in
set_option maxHeartbeats 2000000 in
/-- Who is left, of a clone. -/
theorem implRest (xs : List GArrival) (v : Value) (o : GOrigin) (w : World) (B : Nat) (h : ArrivalL w B v xs) (hB : B ≤ w.heap.size) (hok : okArs xs) (ho : okOr o) :
    Calls Try.prog 79 #[v, aggO o] w fun e w' => ∃ v', e = .returned v' ∧ ArrivalO w' w.heap.size w'.heap.size v' (restV xs o) ∧ Below w.heap.size w w' := by
  have hl8 := hok.2
  obtain ⟨W0, hW0⟩ : ∃ W0, w.alloc (.cells #[.int .i64 o.pX, .int .i64 o.pY, .int .i64 o.pTick] 30) = W0 := ⟨_, rfl⟩
  have N0 : Below w.heap.size w W0 := hW0 ▸ (Below.refl w.heap.size w).alloc (Nat.le_refl _) _
  have bO : Bx W0 w.heap.size [.int .i64 o.pX, .int .i64 o.pY, .int .i64 o.pTick] := hW0 ▸ Bx.new w [.int .i64 o.pX, .int .i64 o.pY, .int .i64 o.pTick] 30
  have z0 := N0.size
  have CC := Lib.hid (fun W (q : Below W0.heap.size W0 W) => cloneArrival xs v W B (h.below ((N0.trans (q.mono z0)).mono hB)) (Nat.le_trans hB (Nat.le_trans z0 q.size)) (by omega))
  have CF := Lib.hid (fun W => implFitted o W)
  have CD : Hid (∀ (W : World) (L bo : Nat) (v : Value), ArrivalO W L W.heap.size v xs → Bx W bo [.int .i64 o.pX, .int .i64 o.pY, .int .i64 o.pTick] → W0.heap.size ≤ L → L ≤ W.heap.size → (∀ b off cap, 0 < xs.length → v = .slice (some ⟨b, off, none⟩) xs.length cap → b ≠ bo) → Calls Try.prog 101 #[v, .func (.func 92) #[] #[.pointer (some ⟨bo, 0, none⟩)]] W fun e w' => ∃ v', e = .returned v' ∧ ArrivalO w' W0.heap.size w'.heap.size v' (restV xs o) ∧ Below W0.heap.size W w') := Lib.hid (fun W L bo v hown bx hL0 hL hne =>
    (delFn okAr (fun W => Bx W bo [.int .i64 o.pX, .int .i64 o.pY, .int .i64 o.pTick]) (fitV · o) 92 #[.pointer (some ⟨bo, 0, none⟩)] fit_enters xs v W L hown hL (by omega) (fun W2 s hs q => cloFit s o bo _ W2 hs ho q rfl) (fun s hs => okArs_mem hok hs) (fun _ _ hi q => hi.below q) bx (fun W2 b off cap o2 u h0 e hi => hi.setOther (hne b off cap h0 e) u)).mono fun e w' hh => by
      obtain ⟨v', e1, h1, h2⟩ := hh
      exact ⟨v', e1, h1.mono hL0 (Nat.le_refl _), h2.mono hL0⟩)
  obtain ⟨ao, cap, rfl⟩ := h.form
  have HS0 : Hid (∀ w', Below W0.heap.size W0 w' → Below W0.heap.size W0 w' ∧ w'.cell? ⟨w.heap.size, 0, none⟩ = some (.int .i64 o.pX) ∧ w'.cell? ⟨w.heap.size, 1, none⟩ = some (.int .i64 o.pY) ∧ w'.cell? ⟨w.heap.size, 2, none⟩ = some (.int .i64 o.pTick)) := Lib.hid (fun w' q => ⟨q, (bO.below q).2 0 _ rfl, (bO.below q).2 1 _ rfl, (bO.below q).2 2 _ rfl⟩)
  have o0 := bO.2 0 _ rfl
  have o1 := bO.2 1 _ rfl
  have o2 := bO.2 2 _ rfl
  have D0 : Below W0.heap.size W0 W0.drew := (Below.refl _ _).drew
  clear h hok ho
  go_enter Try.func79, Try.ntmps79
  go_wp2_with fail
  clear hW0
  go_region_held3 (fun w' => Below W0.heap.size W0 w' ∧ w'.cell? ⟨w.heap.size, 0, none⟩ = some (.int .i64 o.pX) ∧ w'.cell? ⟨w.heap.size, 1, none⟩ = some (.int .i64 o.pY) ∧ w'.cell? ⟨w.heap.size, 2, none⟩ = some (.int .i64 o.pTick))
    (first
      | exact HS0.out _ (Below.refl _ _).drew
      | exact HS0.out _ hq3
      | exact HS0.out _ hq2
      | exact HS0.out _ hq1)
    (first
      | (go_at_call 102; first
          | ((with_reducible refine (CC.out W0.drew D0).mono ?_); rintro e w1 ⟨v1, rfl, hown, hb⟩; have hq1 := D0.trans (hb.mono D0.size); have hLz : W0.heap.size ≤ W0.drew.heap.size := Nat.le_refl _; obtain ⟨ao1, cap1, rfl⟩ := hown.form)
          | ((with_reducible refine (CC.out w1 hq1).mono ?_); rintro e w2 ⟨v1, rfl, hown, hb⟩; have hq2 := hq1.trans (hb.mono hq1.size); have bx := bx1.below hb; have hne : ∀ b off cap, 0 < xs.length → v1 = .slice (some ⟨b, off, none⟩) xs.length cap → b ≠ bo := (fun b off cap h0 e => by subst e; have := hown.apart b off rfl h0; have := bx1.1.1; omega); have hLz := hq1.size; have hLw := hb.size; obtain ⟨ao1, cap1, rfl⟩ := hown.form))
      | (go_at_call 62; first
          | ((with_reducible refine (CF.out W0.drew).mono ?_); rintro e w1 ⟨bo, rfl, bx1, hbb, hb⟩; have hq1 := D0.trans (hb.mono D0.size))
          | ((with_reducible refine (CF.out w1).mono ?_); rintro e w2 ⟨bo, rfl, bx, hbb, hb2⟩; have hq2 := hq1.trans (hb2.mono hq1.size); have hne : ∀ b off cap, 0 < xs.length → Value.slice ao1 xs.length cap1 = .slice (some ⟨b, off, none⟩) xs.length cap → b ≠ bo := (fun b off cap h0 e => by simp only [Value.slice.injEq] at e; have := hown.apart b off e.1 h0; omega); have hLw : W0.drew.heap.size ≤ w2.heap.size := hq2.size; have hown := (hown.below hb2).mono (Nat.le_refl _) hb2.size))
      | (go_at_call 101; (with_reducible refine (CD.out _ _ bo _ hown bx hLz hLw hne).mono ?_); rintro e w3 ⟨v3, rfl, hown3, hb3⟩; have hq3 := hq2.trans hb3))
  all_goals (obtain ⟨ao3, cap3, rfl⟩ := hown3.form; go_wp2; go_ret)
  all_goals exact ⟨_, rfl, hown3.mono z0 (Nat.le_refl _), N0.trans (hq3.mono z0)⟩
set_option maxRecDepth 100000 in
set_option maxHeartbeats 4000000 in
theorem implWo (xs : List GArrival) (v : Value) (o : GOrigin) (v2 : Value) (w : World) (B : Nat) (h : ArrivalL w B v xs) (h2 : OriginVL w B v2 o) (hB : B ≤ w.heap.size) (hn : szsArrival xs ≤ 1048576) (_ : sz1Origin o ≤ 1048576) (hw : ∀ s ∈ xs, wfArrival s) (hw2 : wfOrigin o) :
    Calls Try.prog 36 #[v, v2] w fun e w' => ∃ v', e = .returned (.tuple #[v', .bool (okVo xs o)]) ∧ ArrivalO w' w.heap.size w'.heap.size v' (resWo xs o) ∧ Below w.heap.size w w' := by
  obtain rfl := h2.form
  clear h2
  have hl := Nat.le_trans (szsArrival_len xs) hn
  obtain ⟨W0, hW0⟩ : ∃ W0, w.alloc (.cells #[.int .i64 o.pX, .int .i64 o.pY, .int .i64 o.pTick] 30) = W0 := ⟨_, rfl⟩
  have N0 : Below w.heap.size w W0 := hW0 ▸ (Below.refl w.heap.size w).alloc (Nat.le_refl _) _
  have bO : Bx W0 w.heap.size [.int .i64 o.pX, .int .i64 o.pY, .int .i64 o.pTick] := hW0 ▸ Bx.new w [.int .i64 o.pX, .int .i64 o.pY, .int .i64 o.pTick] 30
  have z0 := N0.size
  have h0 := h.below (N0.mono hB)
  have CA := Lib.hid (fun u hu => implGoodA xs v u W0 B h0 (Nat.le_trans hB z0) hl hu)
  have CP := Lib.hid (fun u W hu => implOrG o u W hu)
  cases h1 : goodAr xs with
  | false =>
    have C1 := Lib.hid (CA.out false h1)
    have e : okVo xs o = false := by unfold okVo; rw [h1]; rfl
    rw [e, resWo_no e]
    clear CA CP h1 e h0
    obtain ⟨ao, cap, rfl⟩ := h.form
    clear h
    go_enter Try.func36, Try.ntmps36
    go_wp2_with fail
    refine C1.out.mono ?_
    rintro e w1 ⟨rfl, hb⟩
    have N1 := N0.trans (hb.mono z0)
    go_wp2
    go_ret2
    exact ⟨_, rfl, ownK_empty encArrival_len (by omega) _ 28 N1.size, N1.alloc N1.size _⟩
  | true =>
  have C1 := Lib.hid (CA.out true h1)
  cases h2 : goodOr o with
  | false =>
    have C2 := Lib.hid (fun W => CP.out false W h2)
    have e : okVo xs o = false := by unfold okVo; rw [h2, Bool.and_false]
    rw [e, resWo_no e]
    clear CA CP h1 e h0 h2
    obtain ⟨ao, cap, rfl⟩ := h.form
    clear h
    go_enter Try.func36, Try.ntmps36
    go_wp2_with fail
    refine C1.out.mono ?_
    rintro e w1 ⟨rfl, hb⟩
    have N1 := N0.trans (hb.mono z0)
    have bO1 := bO.below hb
    clear hb bO hW0
    have o0 := bO1.2 0 _ rfl
    have o1 := bO1.2 1 _ rfl
    have o2 := bO1.2 2 _ rfl
    go_wp2_with fail
    refine (C2.out _).mono ?_
    rintro e w2 ⟨rfl, hb⟩
    have N2 := N1.trans (hb.mono N1.size)
    go_wp2
    go_ret2
    exact ⟨_, rfl, ownK_empty encArrival_len (by omega) _ 28 N2.size, N2.alloc N2.size _⟩
  | true =>
  have C2 := Lib.hid (fun W => CP.out true W h2)
  have e : okVo xs o = true := by unfold okVo; rw [h1, h2]; rfl
  rw [e, resWo_yes e]
  have CR := Lib.hid (fun W (q : Below w.heap.size w W) => implRest xs v o W B (h.below (q.mono hB)) (Nat.le_trans hB q.size) (goodAr_yes h1) (goodOr_yes h2))
  obtain ⟨ao, cap, rfl⟩ := h.form
  clear CA CP h1 e h0 h2 h
  go_enter Try.func36, Try.ntmps36
  go_wp2_with fail
  refine C1.out.mono ?_
  rintro e w1 ⟨rfl, hb⟩
  have N1 := N0.trans (hb.mono z0)
  have bO1 := bO.below hb
  clear hb bO hW0 N0
  have o0 := bO1.2 0 _ rfl
  have o1 := bO1.2 1 _ rfl
  have o2 := bO1.2 2 _ rfl
  go_wp2_with fail
  refine (C2.out _).mono ?_
  rintro e w2 ⟨rfl, hb⟩
  have N2 := N1.trans (hb.mono N1.size)
  have bO2 := bO1.below hb
  clear hb bO1 o0 o1 o2 N1
  have o0 := bO2.2 0 _ rfl
  have o1 := bO2.2 1 _ rfl
  have o2 := bO2.2 2 _ rfl
  go_wp2_with fail
  refine (CR.out _ N2).mono ?_
  rintro e w3 ⟨v3, rfl, hown, hb⟩
  have N3 := N2.trans (hb.mono N2.size)
  obtain ⟨ao3, cap3, rfl⟩ := hown.form
  go_wp2
  go_ret2
  exact ⟨_, rfl, hown.mono N2.size (Nat.le_refl _), N3⟩
end Go.Proofs.Ytoogofceoinniab
