/- Models of the ground: the program's overtaking. -/
import Derived.Test.YtklilfbokpljkaaErL
import Derived.Test.YtklilfbokpljkaaErF
import Derived.ScopeJumps
import Derived.WalkMore
namespace Go.Proofs.Ytklilfbokpljkaa
open Go.ChangeShapes Go.WideShapes Go.ChangeAt Go.RowKit Go.ChangeMaps Go.Sort
set_option linter.unusedSimpArgs false
set_option linter.unusedVariables false
set_option linter.unusedSimpArgs false
set_option linter.unusedVariables false

set_option maxRecDepth 100000 in
set_option maxHeartbeats 4000000 in
theorem implOv (xs : List GEarth) (v : Value) (k : Int) (w : World) (B : Nat) (h : EarthL w B v xs) (hB : B ≤ w.heap.size) (hn : szsEarth xs ≤ 1048576) (hw : ∀ s ∈ xs, wfEarth s) (_ : I64 k) :
    Calls Try.prog 28 #[v, .int .i64 k] w fun e w' => e = .returned (.tuple #[.int .i64 (atOv xs k), .bool (okOv xs k)]) ∧ Below w.heap.size w w' := by
  have hl := Nat.le_trans (szsEarth_len xs) hn
  have N0 := Below.refl w.heap.size w
  cases hg : goodE xs with
  | false =>
    have CG : Hid (∀ W, Below w.heap.size w W → Calls Try.prog 35 #[v] W fun e w9 => e = .returned (.bool false) ∧ Below W.heap.size W w9) := Lib.hid (fun W q => implGoodE xs v false W B (h.below (q.mono hB)) (Nat.le_trans hB q.size) hl hg)
    have HF := Lib.hid (noOv (okOv_bad (xs := xs) (l := k) hg))
    obtain ⟨ao, cap, rfl⟩ := h.form
    clear h hg
    go_enter Try.func28, Try.ntmps28
    go_wp2
    go_step3
    go_wp2_with fail
    refine (CG.out _ N0).mono ?_
    rintro e w1 ⟨rfl, hb1⟩
    have N1 := N0.trans (hb1.mono N0.size)
    clear hb1 N0
    go_wp2
    (try rw [Exit.noGoto_ret])
    go_ret2
    exact ⟨HF.out, N1⟩
  | true =>
    have hok := goodE_yes hg
    have CG : Hid (∀ W, Below w.heap.size w W → Calls Try.prog 35 #[v] W fun e w9 => e = .returned (.bool true) ∧ Below W.heap.size W w9) := Lib.hid (fun W q => implGoodE xs v true W B (h.below (q.mono hB)) (Nat.le_trans hB q.size) hl hg)
    by_cases hk : 0 ≤ k ∧ k ≤ (xs.length : Int) - 1
    case neg =>
      have CL : Hid (∀ W, Below w.heap.size w W → Calls Try.prog 110 #[v, .int .i64 k] W fun e w9 => e = .returned (.bool false) ∧ Below W.heap.size W w9) := Lib.hid (fun W q => implHasL xs v k false W B (h.below (q.mono hB)) hl (decide_eq_false hk))
      have HF := Lib.hid (noOv (okOv_lay (xs := xs) (l := k) (by omega)))
      obtain ⟨ao, cap, rfl⟩ := h.form
      clear h hg hk hok
      go_enter Try.func28, Try.ntmps28
      go_wp2
      go_step3
      go_wp2_with fail
      refine (CG.out _ N0).mono ?_
      rintro e w1 ⟨rfl, hb1⟩
      have N1 := N0.trans (hb1.mono N0.size)
      clear hb1 N0
      go_wp2_with fail
      refine (CL.out _ N1).mono ?_
      rintro e w2 ⟨rfl, hb2⟩
      have N2 := N1.trans (hb2.mono N1.size)
      clear hb2 N1
      go_wp2
      (try rw [Exit.noGoto_ret])
      go_ret2
      exact ⟨HF.out, N2⟩
    have CL : Hid (∀ W, Below w.heap.size w W → Calls Try.prog 110 #[v, .int .i64 k] W fun e w9 => e = .returned (.bool true) ∧ Below W.heap.size W w9) := Lib.hid (fun W q => implHasL xs v k true W B (h.below (q.mono hB)) hl (decide_eq_true hk))
    by_cases hz : k = 0
    case pos =>
      have HF := Lib.hid (noOv (okOv_lay (xs := xs) (l := k) (by omega)))
      have g0 : (k == 0) = true := by simpa using hz
      obtain ⟨ao, cap, rfl⟩ := h.form
      clear h hg hk hok hz
      go_enter Try.func28, Try.ntmps28
      go_wp2
      go_step3
      go_wp2_with fail
      refine (CG.out _ N0).mono ?_
      rintro e w1 ⟨rfl, hb1⟩
      have N1 := N0.trans (hb1.mono N0.size)
      clear hb1 N0
      go_wp2_with fail
      refine (CL.out _ N1).mono ?_
      rintro e w2 ⟨rfl, hb2⟩
      have N2 := N1.trans (hb2.mono N1.size)
      clear hb2 N1
      go_wp2
      (try rw [Exit.noGoto_ret])
      go_ret2
      exact ⟨HF.out, N2⟩
    have CT : Hid (∀ W, Below w.heap.size w W → Calls Try.prog 100 #[v] W fun e w9 => e = .returned (.agg (tvE xs).toArray) ∧ Below W.heap.size W w9) := Lib.hid (fun W q => implTvl xs v W B (h.below (q.mono hB)) (Nat.le_trans hB q.size) hok)
    have g0 : (k == 0) = false := by simpa using hz
    have hk1 : 1 ≤ k ∧ k ≤ (xs.length : Int) - 1 := by omega
    have HY := Lib.hid (fun (x : Int) h1 h2 => yesOv (xs := xs) (l := k) (x := x) hg hk1 h1 h2)
    have HN := Lib.hid (fun h1 => noOv (okOv_never (xs := xs) (l := k) h1))
    have HPY : Hid (∀ d : Nat, (∀ j, j < k.toNat → viaE (prodE xs) xs (d : Int) k.toNat < viaE (prodE xs) xs (d : Int) j) → overE (prodE xs) xs k.toNat d = true) := Lib.hid (fun d hh => overE_yes hh)
    have HPN : Hid (∀ d j : Nat, j < k.toNat → viaE (prodE xs) xs (d : Int) j ≤ viaE (prodE xs) xs (d : Int) k.toNat → overE (prodE xs) xs k.toNat d = false) := Lib.hid (fun d j hj hh => overE_no hj (by omega))
    have CA : Hid (∀ (d : Nat), d ≤ 2000 → ∀ (W : World) n os, Calls Try.prog 111 #[.agg (tvE xs).toArray, .int .i64 k, .int .i64 d] (grow (W.drewN n) os) fun e w'' => e = .returned (.int .i64 (viaE (prodE xs) xs (d : Int) k.toNat)) ∧ ∃ p : Gr, w'' = grow (W.drewN p.n) p.os) := Lib.hid (fun d hd W n os => Calls.gr_of (by have := implVia xs k.toNat d _ (grow (W.drewN n) os) hok (by omega) (by omega) (by omega) rfl; rwa [show ((k.toNat : Nat) : Int) = k by omega] at this))
    have CB : Hid (∀ (d j : Nat), d ≤ 2000 → j < k.toNat → ∀ (W : World) n os, Calls Try.prog 111 #[.agg (tvE xs).toArray, .int .i64 j, .int .i64 d] (grow (W.drewN n) os) fun e w'' => e = .returned (.int .i64 (viaE (prodE xs) xs (d : Int) j)) ∧ ∃ p : Gr, w'' = grow (W.drewN p.n) p.os) := Lib.hid (fun d j hd hj W n os => Calls.gr_of (implVia xs j d _ (grow (W.drewN n) os) hok (by omega) (by omega) (by omega) rfl))
    obtain ⟨f0, f1, f2, f3, f4, t0, t1, t2, t3, t4, ht⟩ := tvE_form xs
    rw [ht] at CT CA CB
    have hkn : ((k.toNat : Nat) : Int) = k := by omega
    have hk5 : k ≤ 4 := by have := hok.1; omega
    obtain ⟨p, hp⟩ : ∃ p, overE (prodE xs) xs k.toNat = p := ⟨_, rfl⟩
    rw [hp] at HY HN HPY HPN
    generalize prodE xs = P at *
    have HKN := Lib.hid hkn
    obtain ⟨ao, cap, rfl⟩ := h.form
    clear h hg hk hok hz hp ht hkn
    go_enter Try.func28, Try.ntmps28
    go_wp2
    refine wp_scope_jumps 0 (fun a' w' => ∃ (d bt : Nat) (u8 u9 u10 u11 u12 u13 u14 u15 u16 u17 u18 u19 u20 u21 u22 u23 u24 u25 u26 u27 u28 u29 u30 u31 u32 u33 u34 u35 u36 u37 u38 u39 u40 u41 : Value), a' = { tmps := #[.slice ao xs.length cap, .int .i64 k, undef, undef, .int .i64 0, .bool false, .pointer (some ⟨bt, 0, none⟩), .int .i64 d, u8, u9, u10, u11, u12, u13, u14, u15, u16, u17, u18, u19, u20, u21, u22, u23, u24, u25, u26, u27, u28, u29, u30, u31, u32, u33, u34, u35, u36, u37, u38, u39, u40, u41, undef], defers := [] } ∧ d ≤ 2000 ∧ Hid (runE p d = d) ∧ Bx w' bt [.int .i64 xs.length, .int .i64 P, .int .i64 f0, .int .i64 f1, .int .i64 f2, .int .i64 f3, .int .i64 f4, .int .i64 t0, .int .i64 t1, .int .i64 t2, .int .i64 t3, .int .i64 t4] ∧ Below w.heap.size w w') (fun a' _ => 2000 - (intOf (a'.tmps.getD 7 undef)).toNat) rfl ?_ ?_
    ·
      go_wp2_with fail
      refine (CG.out _ N0).mono ?_
      rintro e w1 ⟨rfl, hb1⟩
      have N1 := N0.trans (hb1.mono N0.size)
      clear hb1 N0
      go_wp2_with fail
      refine (CL.out _ N1).mono ?_
      rintro e w2 ⟨rfl, hb2⟩
      have N2 := N1.trans (hb2.mono N1.size)
      clear hb2 N1
      go_wp2_with fail
      refine (CT.out _ N2).mono ?_
      rintro e w3 ⟨rfl, hb3⟩
      have N3 := N2.trans (hb3.mono N2.size)
      clear hb3 N2
      have bt0 := Bx.new w3 [.int .i64 xs.length, .int .i64 P, .int .i64 f0, .int .i64 f1, .int .i64 f2, .int .i64 f3, .int .i64 f4, .int .i64 t0, .int .i64 t1, .int .i64 t2, .int .i64 t3, .int .i64 t4] 89
      have NB := N3.alloc N3.size (.cells #[.int .i64 xs.length, .int .i64 P, .int .i64 f0, .int .i64 f1, .int .i64 f2, .int .i64 f3, .int .i64 f4, .int .i64 t0, .int .i64 t1, .int .i64 t2, .int .i64 t3, .int .i64 t4] 89)
      clear N3
      go_wp2
      obtain ⟨V, hV⟩ : ∃ V : Nat → Int, viaE P xs ((0 : Nat) : Int) = V := ⟨_, rfl⟩
      have cA : ∀ (W : World) n os, Calls Try.prog 111 #[.agg #[.int .i64 xs.length, .int .i64 P, .int .i64 f0, .int .i64 f1, .int .i64 f2, .int .i64 f3, .int .i64 f4, .int .i64 t0, .int .i64 t1, .int .i64 t2, .int .i64 t3, .int .i64 t4], .int .i64 k, .int .i64 0] (grow (W.drewN n) os) fun e w'' => e = .returned (.int .i64 (V k.toNat)) ∧ ∃ p : Gr, w'' = grow (W.drewN p.n) p.os := by rw [← hV]; exact CA.out 0 (by omega)
      have cB : ∀ (j : Nat), j < k.toNat → ∀ (W : World) n os, Calls Try.prog 111 #[.agg #[.int .i64 xs.length, .int .i64 P, .int .i64 f0, .int .i64 f1, .int .i64 f2, .int .i64 f3, .int .i64 f4, .int .i64 t0, .int .i64 t1, .int .i64 t2, .int .i64 t3, .int .i64 t4], .int .i64 j, .int .i64 0] (grow (W.drewN n) os) fun e w'' => e = .returned (.int .i64 (V j)) ∧ ∃ p : Gr, w'' = grow (W.drewN p.n) p.os := by rw [← hV]; exact fun j hj => CB.out 0 j (by omega) hj
      have HVY : Hid ((∀ j, j < k.toNat → V k.toNat < V j) → p 0 = true) := Lib.hid (by rw [← hV]; exact HPY.out 0)
      have HVN : Hid (∀ j, j < k.toNat → V j ≤ V k.toNat → p 0 = false) := Lib.hid (by rw [← hV]; exact HPN.out 0)
      have cA := Lib.hid cA
      have cB := Lib.hid cB
      clear hV
      obtain ⟨VK, hVK⟩ : ∃ VK, V k.toNat = VK := ⟨_, rfl⟩
      rw [hVK] at cA HVY HVN
      clear hVK
      go_step3
      go_wp2
      go_loopw [4, 5, 7, 25] (fun s4 s5 s7 i wr => ∃ (j : Nat), j ≤ k.toNat ∧ i = .int .i64 j ∧ s4 = .int .i64 0 ∧ s5 = .bool false ∧ s7 = .int .i64 0 ∧ Hid (∀ j', j' < j → VK < V j') ∧ Bx wr w3.heap.size [.int .i64 xs.length, .int .i64 P, .int .i64 f0, .int .i64 f1, .int .i64 f2, .int .i64 f3, .int .i64 f4, .int .i64 t0, .int .i64 t1, .int .i64 t2, .int .i64 t3, .int .i64 t4] ∧ Below w.heap.size w wr) (fun _ _ _ i _ => k.toNat - (intOf i).toNat)
      case atStart => exact ⟨0, Nat.zero_le _, rfl, rfl, rfl, rfl, Lib.hid (fun j' hj => absurd hj (Nat.not_lt_zero _)), bt0, NB⟩
      case round =>
        clear bt0 NB
        obtain ⟨j, hj9, rfl, rfl, rfl, rfl, HJ, bt1, hbl⟩ := hrel
        have hjk : (j : Int) ≤ k := by omega
        by_cases hlt : j < k.toNat
        case neg =>
          obtain rfl : j = k.toNat := by omega
          have g1 : ((k.toNat : Nat) : Int) = k := HKN.out
          have hpd := HVY.out HJ.out
          have hst := runE_stop (n := 0) (m := 2001) (show runE p 0 = 0 from rfl) hpd (by omega)
          have HF := Lib.hid (HY.out 0 (by rw [hst]; omega) (by rw [hst]; rfl))
          have g2 : ¬ k < k := by omega
          clear hpd hst
          generalize hgk : ((k.toNat : Nat) : Int) = kk at *
          subst g1
          clear hgk hlt hj9 hjk
          go_wp2
          (try simp only [Exit.jump])
          go_ret2
          exact ⟨HF.out, hbl⟩
        have hj0 : (j : Int) < k := by omega
        have cB1 := cB.out j hlt
        have cA1 := cA.out
        have r0 := cell_gr (bt1.2 0 _ rfl)
        have r1 := cell_gr (bt1.2 1 _ rfl)
        have r2 := cell_gr (bt1.2 2 _ rfl)
        have r3 := cell_gr (bt1.2 3 _ rfl)
        have r4 := cell_gr (bt1.2 4 _ rfl)
        have r5 := cell_gr (bt1.2 5 _ rfl)
        have r6 := cell_gr (bt1.2 6 _ rfl)
        have r7 := cell_gr (bt1.2 7 _ rfl)
        have r8 := cell_gr (bt1.2 8 _ rfl)
        have r9 := cell_gr (bt1.2 9 _ rfl)
        have r10 := cell_gr (bt1.2 10 _ rfl)
        have r11 := cell_gr (bt1.2 11 _ rfl)
        obtain ⟨VJ, hVJ⟩ : ∃ VJ, V j = VJ := ⟨_, rfl⟩
        have HVJ := Lib.hid hVJ
        rw [hVJ] at cB1
        clear hVJ
        have hj5 : (j : Int) ≤ 4 := by omega
        by_cases hc : VK < VJ
        case pos =>
          have HJ2 : Hid (∀ j', j' < j + 1 → VK < V j') := Lib.hid (fun j' hj => by rcases Nat.lt_succ_iff_lt_or_eq.1 hj with q | rfl; exact HJ.out j' q; rw [HVJ.out]; exact hc)
          go_wp2
          refine region_grw (by kernel_rfl) (by kernel_rfl) ?_
          iterate 4 (go_big_quiet_step (with_reducible exact cA1 _ _ _))
          repeat (go_big_quiet_step (with_reducible exact cB1 _ _ _))
          refine wpQuiet_nil ?_
          intro _ hw'
          obtain ⟨⟨nq, osq⟩, hw''⟩ := hw'
          subst hw''
          have G2 := grew_gr wr nq osq
          have bt2 := G2.bx bt1
          have N2 := hbl.trans (G2.below.mono hbl.size)
          generalize grow (wr.drewN nq) osq = w5 at *
          clear r0 r1 r2 r3 r4 r5 r6 r7 r8 r9 r10 r11 cA1 cB1 bt1 hbl G2
          go_wp2
          go_roundw
          case rel => exact ⟨j + 1, by omega, by go_num, rfl, rfl, rfl, HJ2, bt2, N2⟩
          case measure => simp [intOf]; omega
        have hpd := HVN.out j hlt (by rw [HVJ.out]; omega)
        have HU2 := Lib.hid (runE_succ (n := 0) (p := p) rfl hpd)
        clear hpd
        go_wp2
        refine region_grw (by kernel_rfl) (by kernel_rfl) ?_
        iterate 4 (go_big_quiet_step (with_reducible exact cA1 _ _ _))
        repeat (go_big_quiet_step (with_reducible exact cB1 _ _ _))
        refine wpQuiet_nil ?_
        intro _ hw'
        obtain ⟨⟨nq, osq⟩, hw''⟩ := hw'
        subst hw''
        have G2 := grew_gr wr nq osq
        have bt2 := G2.bx bt1
        have N2 := hbl.trans (G2.below.mono hbl.size)
        generalize grow (wr.drewN nq) osq = w5 at *
        clear r0 r1 r2 r3 r4 r5 r6 r7 r8 r9 r10 r11 cA1 cB1 bt1 hbl G2
        go_wp2
        go_step3
        exact ⟨rfl, 1, _, _, _, _, _, _, _, _, _, _, _, _, _, _, _, _, _, _, _, _, _, _, _, _, _, _, _, _, _, _, _, _, _, _, _, rfl, by omega, HU2, bt2, N2⟩
    ·
      rintro a9 w9 ⟨d, bt, u8, u9, u10, u11, u12, u13, u14, u15, u16, u17, u18, u19, u20, u21, u22, u23, u24, u25, u26, u27, u28, u29, u30, u31, u32, u33, u34, u35, u36, u37, u38, u39, u40, u41, rfl, hd9, HU, bt0, NB⟩
      obtain ⟨V, hV⟩ : ∃ V : Nat → Int, viaE P xs ((d : Nat) : Int) = V := ⟨_, rfl⟩
      have cA : ∀ (W : World) n os, Calls Try.prog 111 #[.agg #[.int .i64 xs.length, .int .i64 P, .int .i64 f0, .int .i64 f1, .int .i64 f2, .int .i64 f3, .int .i64 f4, .int .i64 t0, .int .i64 t1, .int .i64 t2, .int .i64 t3, .int .i64 t4], .int .i64 k, .int .i64 (d : Int)] (grow (W.drewN n) os) fun e w'' => e = .returned (.int .i64 (V k.toNat)) ∧ ∃ p : Gr, w'' = grow (W.drewN p.n) p.os := by rw [← hV]; exact CA.out d (by omega)
      have cB : ∀ (j : Nat), j < k.toNat → ∀ (W : World) n os, Calls Try.prog 111 #[.agg #[.int .i64 xs.length, .int .i64 P, .int .i64 f0, .int .i64 f1, .int .i64 f2, .int .i64 f3, .int .i64 f4, .int .i64 t0, .int .i64 t1, .int .i64 t2, .int .i64 t3, .int .i64 t4], .int .i64 j, .int .i64 (d : Int)] (grow (W.drewN n) os) fun e w'' => e = .returned (.int .i64 (V j)) ∧ ∃ p : Gr, w'' = grow (W.drewN p.n) p.os := by rw [← hV]; exact fun j hj => CB.out d j (by omega) hj
      have HVY : Hid ((∀ j, j < k.toNat → V k.toNat < V j) → p d = true) := Lib.hid (by rw [← hV]; exact HPY.out d)
      have HVN : Hid (∀ j, j < k.toNat → V j ≤ V k.toNat → p d = false) := Lib.hid (by rw [← hV]; exact HPN.out d)
      have cA := Lib.hid cA
      have cB := Lib.hid cB
      clear hV
      obtain ⟨VK, hVK⟩ : ∃ VK, V k.toNat = VK := ⟨_, rfl⟩
      rw [hVK] at cA HVY HVN
      clear hVK
      skip
      go_wp2
      go_loopw [4, 5, 7, 25] (fun s4 s5 s7 i wr => ∃ (j : Nat), j ≤ k.toNat ∧ i = .int .i64 j ∧ s4 = .int .i64 0 ∧ s5 = .bool false ∧ s7 = .int .i64 (d : Int) ∧ Hid (∀ j', j' < j → VK < V j') ∧ Bx wr bt [.int .i64 xs.length, .int .i64 P, .int .i64 f0, .int .i64 f1, .int .i64 f2, .int .i64 f3, .int .i64 f4, .int .i64 t0, .int .i64 t1, .int .i64 t2, .int .i64 t3, .int .i64 t4] ∧ Below w.heap.size w wr) (fun _ _ _ i _ => k.toNat - (intOf i).toNat)
      case atStart => exact ⟨0, Nat.zero_le _, rfl, rfl, rfl, rfl, Lib.hid (fun j' hj => absurd hj (Nat.not_lt_zero _)), bt0, NB⟩
      case round =>
        clear bt0 NB
        obtain ⟨j, hj9, rfl, rfl, rfl, rfl, HJ, bt1, hbl⟩ := hrel
        have hjk : (j : Int) ≤ k := by omega
        by_cases hlt : j < k.toNat
        case neg =>
          obtain rfl : j = k.toNat := by omega
          have g1 : ((k.toNat : Nat) : Int) = k := HKN.out
          have hpd := HVY.out HJ.out
          have hst := runE_stop HU.out hpd (show d ≤ 2001 by omega)
          have HF := Lib.hid (HY.out (d : Int) (by rw [hst]; omega) (by rw [hst]))
          have g2 : ¬ k < k := by omega
          clear hpd hst
          generalize hgk : ((k.toNat : Nat) : Int) = kk at *
          subst g1
          clear hgk hlt hj9 hjk
          go_wp2
          (try simp only [Exit.jump])
          go_ret2
          exact ⟨HF.out, hbl⟩
        have hj0 : (j : Int) < k := by omega
        have cB1 := cB.out j hlt
        have cA1 := cA.out
        have r0 := cell_gr (bt1.2 0 _ rfl)
        have r1 := cell_gr (bt1.2 1 _ rfl)
        have r2 := cell_gr (bt1.2 2 _ rfl)
        have r3 := cell_gr (bt1.2 3 _ rfl)
        have r4 := cell_gr (bt1.2 4 _ rfl)
        have r5 := cell_gr (bt1.2 5 _ rfl)
        have r6 := cell_gr (bt1.2 6 _ rfl)
        have r7 := cell_gr (bt1.2 7 _ rfl)
        have r8 := cell_gr (bt1.2 8 _ rfl)
        have r9 := cell_gr (bt1.2 9 _ rfl)
        have r10 := cell_gr (bt1.2 10 _ rfl)
        have r11 := cell_gr (bt1.2 11 _ rfl)
        obtain ⟨VJ, hVJ⟩ : ∃ VJ, V j = VJ := ⟨_, rfl⟩
        have HVJ := Lib.hid hVJ
        rw [hVJ] at cB1
        clear hVJ
        have hj5 : (j : Int) ≤ 4 := by omega
        by_cases hc : VK < VJ
        case pos =>
          have HJ2 : Hid (∀ j', j' < j + 1 → VK < V j') := Lib.hid (fun j' hj => by rcases Nat.lt_succ_iff_lt_or_eq.1 hj with q | rfl; exact HJ.out j' q; rw [HVJ.out]; exact hc)
          go_wp2
          refine region_grw (by kernel_rfl) (by kernel_rfl) ?_
          iterate 4 (go_big_quiet_step (with_reducible exact cA1 _ _ _))
          repeat (go_big_quiet_step (with_reducible exact cB1 _ _ _))
          refine wpQuiet_nil ?_
          intro _ hw'
          obtain ⟨⟨nq, osq⟩, hw''⟩ := hw'
          subst hw''
          have G2 := grew_gr wr nq osq
          have bt2 := G2.bx bt1
          have N2 := hbl.trans (G2.below.mono hbl.size)
          generalize grow (wr.drewN nq) osq = w5 at *
          clear r0 r1 r2 r3 r4 r5 r6 r7 r8 r9 r10 r11 cA1 cB1 bt1 hbl G2
          go_wp2
          go_roundw
          case rel => exact ⟨j + 1, by omega, by go_num, rfl, rfl, rfl, HJ2, bt2, N2⟩
          case measure => simp [intOf]; omega
        have hpd := HVN.out j hlt (by rw [HVJ.out]; omega)
        by_cases hd2 : d = 2000
        case pos =>
          have hr2 : runE p 2001 = 2001 := by rw [show (2001 : Nat) = d + 1 by omega]; exact runE_succ HU.out hpd
          have HF := Lib.hid (HN.out (by rw [hr2]; omega))
          clear hr2
          have g3 : ((d : Int) == 2000) = true := by simp; omega
          clear hpd hd2
          go_wp2
          refine region_grw (by kernel_rfl) (by kernel_rfl) ?_
          iterate 4 (go_big_quiet_step (with_reducible exact cA1 _ _ _))
          repeat (go_big_quiet_step (with_reducible exact cB1 _ _ _))
          refine wpQuiet_nil ?_
          intro _ hw'
          obtain ⟨⟨nq, osq⟩, hw''⟩ := hw'
          subst hw''
          have G2 := grew_gr wr nq osq
          have bt2 := G2.bx bt1
          have N2 := hbl.trans (G2.below.mono hbl.size)
          generalize grow (wr.drewN nq) osq = w5 at *
          clear r0 r1 r2 r3 r4 r5 r6 r7 r8 r9 r10 r11 cA1 cB1 bt1 hbl G2
          go_wp2
          (try simp only [Exit.jump])
          go_ret2
          exact ⟨HF.out, N2⟩
        have HU2 := Lib.hid (runE_succ HU.out hpd)
        have g3 : ((d : Int) == 2000) = false := by simp; omega
        have g4 : ¬ (d : Int) = 2000 := by omega
        have s9 : IntKind.i64.wrap ((d : Int) + 1) = (d : Int) + 1 := IntWalk.i64_in _ (by omega)
        clear hpd
        go_wp2
        refine region_grw (by kernel_rfl) (by kernel_rfl) ?_
        iterate 4 (go_big_quiet_step (with_reducible exact cA1 _ _ _))
        repeat (go_big_quiet_step (with_reducible exact cB1 _ _ _))
        refine wpQuiet_nil ?_
        intro _ hw'
        obtain ⟨⟨nq, osq⟩, hw''⟩ := hw'
        subst hw''
        have G2 := grew_gr wr nq osq
        have bt2 := G2.bx bt1
        have N2 := hbl.trans (G2.below.mono hbl.size)
        generalize grow (wr.drewN nq) osq = w5 at *
        clear r0 r1 r2 r3 r4 r5 r6 r7 r8 r9 r10 r11 cA1 cB1 bt1 hbl G2
        go_wp2
        go_step3
        refine ⟨rfl, ⟨d + 1, _, _, _, _, _, _, _, _, _, _, _, _, _, _, _, _, _, _, _, _, _, _, _, _, _, _, _, _, _, _, _, _, _, _, _, rfl, by omega, HU2, bt2, N2⟩, ?_⟩
        simp [intOf]; omega
end Go.Proofs.Ytklilfbokpljkaa
