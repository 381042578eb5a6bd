/- Triggers: the program's test for enough samples; its times. -/
import Derived.Test.YtklilfbokpljkabTjD
import Derived.Test.YtklilfbokpljkabTgF
namespace Go.Proofs.Ytklilfbokpljkab
open Go.ChangeShapes Go.WideShapes Go.ChangeAt Go.RowKit Go.ChangeMaps Go.Sort Go.Shelf
set_option linter.unusedSimpArgs false
set_option linter.unusedVariables false
set_option linter.unusedSimpArgs false
set_option linter.unusedVariables false

set_option maxRecDepth 100000 in
set_option maxHeartbeats 16000000 in
theorem hasRatioT (xs : List Int) (ao : Option Addr) (cap : Nat) (s : GSetting) (p : Int) (u : Bool) (w : World) (hl : xs.length ≤ 24) (hs : okS s) (hu : decide (s.pLong - 1 ≤ p ∧ p ≤ (xs.length : Int) - 1) = u) :
    Calls Try.prog 83 #[aggT ao xs.length cap s, .int .i64 p] w fun e w' => e = .returned (.bool u) ∧ Below w.heap.size w w' := by
  have hb1 : 1 ≤ s.pLong ∧ s.pLong ≤ 100 := by have := hs.1; have := hs.2.1; omega
  obtain ⟨W0, hW0⟩ : ∃ W0, w.alloc (.cells #[.slice ao xs.length cap, .int .i64 s.pShort, .int .i64 s.pLong, .int .i64 s.pOn, .int .i64 s.pOff] 78) = W0 := ⟨_, rfl⟩
  have N0 : Below w.heap.size w W0 := hW0 ▸ (Below.refl w.heap.size w).alloc (Nat.le_refl _) _
  have bx : Bx W0 w.heap.size (celT ao xs.length cap s) := hW0 ▸ Bx.new w (celT ao xs.length cap s) 78
  have HU := Lib.hid hu
  have e1 : IntKind.i64.wrap ((xs.length : Int) - 1) = (xs.length : Int) - 1 := IntWalk.i64_in _ (by omega)
  clear hs hu
  have HS0 : Hid (∀ w', Below W0.heap.size W0 w' → Below W0.heap.size W0 w' ∧ w'.cell? ⟨w.heap.size, 0, none⟩ = some (.slice ao xs.length cap) ∧ w'.cell? ⟨w.heap.size, 1, none⟩ = some (.int .i64 s.pShort) ∧ w'.cell? ⟨w.heap.size, 2, none⟩ = some (.int .i64 s.pLong) ∧ w'.cell? ⟨w.heap.size, 3, none⟩ = some (.int .i64 s.pOn) ∧ w'.cell? ⟨w.heap.size, 4, none⟩ = some (.int .i64 s.pOff)) :=
    Lib.hid (fun w' q => ⟨q, (bx.below q).2 0 _ rfl, (bx.below q).2 1 _ rfl, (bx.below q).2 2 _ rfl, (bx.below q).2 3 _ rfl, (bx.below q).2 4 _ rfl⟩)
  have A0 : Below W0.heap.size W0 (W0.alloc (.cells #[.int .i64 p] 3)).drew := ((Below.refl W0.heap.size W0).alloc (Nat.le_refl _) _).drew
  have NB : Bx (W0.alloc (.cells #[.int .i64 p] 3)).drew W0.heap.size [.int .i64 p] := Bx.new W0 [.int .i64 p] 3
  go_enter Try.func83, Try.ntmps83
  go_wp2
  go_region_held3 (fun w' => Below W0.heap.size W0 w' ∧ w'.cell? ⟨w.heap.size, 0, none⟩ = some (.slice ao xs.length cap) ∧ w'.cell? ⟨w.heap.size, 1, none⟩ = some (.int .i64 s.pShort) ∧ w'.cell? ⟨w.heap.size, 2, none⟩ = some (.int .i64 s.pLong) ∧ w'.cell? ⟨w.heap.size, 3, none⟩ = some (.int .i64 s.pOn) ∧ w'.cell? ⟨w.heap.size, 4, none⟩ = some (.int .i64 s.pOff))
    (first
      | exact HS0.out _ (Below.refl _ _).drew
      | exact HS0.out _ A0
      | exact HS0.out _ hq2
      | exact HS0.out _ (hq2.alloc hq2.size _))
    (first
      | (go_at_call 76; first
          | ((with_reducible refine (firstPlaceT ao xs.length cap s W0.drew hb1.1 hb1.2).mono ?_); rintro e w2 ⟨rfl, hq⟩; have hq2 := (Below.refl W0.heap.size W0).drew.trans hq; clear hq)
          | ((with_reducible refine (firstPlaceT ao xs.length cap s (W0.alloc (.cells #[.int .i64 p] 3)).drew hb1.1 hb1.2).mono ?_); rintro e w2 ⟨rfl, hq⟩; have hq2 := A0.trans (hq.mono A0.size); have nb := NB.below hq; clear hq))
      | (go_at_call 80; first
          | ((with_reducible refine (withinOneQ (s.pLong - 1) ((xs.length : Int) - 1) p _ u _ nb HU.out).mono ?_); rintro e w9 ⟨rfl, q9⟩; obtain rfl := q9)
          | ((with_reducible refine (withinOneQ (s.pLong - 1) ((xs.length : Int) - 1) p _ u _ (Bx.new w2 [.int .i64 p] 3) HU.out).mono ?_); rintro e w9 ⟨rfl, q9⟩; obtain rfl := q9)))
  all_goals (go_wp2; go_ret)
  all_goals first
    | exact ⟨rfl, N0.trans (hq2.mono N0.size)⟩
    | exact ⟨rfl, N0.trans ((hq2.alloc hq2.size _).mono N0.size)⟩
set_option maxRecDepth 100000 in
set_option maxHeartbeats 4000000 in
/-- The times that a trigger is on. -/
theorem timesOfT (xs : List Int) (ao : Option Addr) (cap : Nat) (s : GSetting) (w : World) (B : Nat) (h : Lst (Value.int .i64) w B (.slice ao xs.length cap) xs) (hB : B ≤ w.heap.size) (hx : okL xs = true) (hs : okS s) :
    Calls Try.prog 81 #[aggT ao xs.length cap s] w fun e w' => ∃ v', e = .returned v' ∧ IntA2SO w' w.heap.size w'.heap.size v' (timesT xs s) ∧ Below w.heap.size w w' := by
  have hmf : ∀ (fn : Fn) (first cap : Array Value) (w : World), (Instr.makeFunc fn first cap).run Try.prog w = .ok (.func fn first cap) w := fun _ _ _ _ => rfl
  have hl24 := (okL_yes hx).2
  obtain ⟨ti, hi, hz0, hz1, hz2⟩ := info_parts info_A2
  have bx0 := (Bx.new w (celT ao xs.length cap s) 78).alloc (.cells #[] 55)
  have N1 := ((Below.refl w.heap.size w).alloc (Nat.le_refl _) (.cells #[.slice ao xs.length cap, .int .i64 s.pShort, .int .i64 s.pLong, .int .i64 s.pOn, .int .i64 s.pOff] 78)).alloc (by first | omega | (simp; done) | (simp; omega)) (.cells #[] 55)
  have hr0 := row_emptyQ w (.cells #[.slice ao xs.length cap, .int .i64 s.pShort, .int .i64 s.pLong, .int .i64 s.pOn, .int .i64 s.pOff] 78) (base := w.heap.size + 1) 55 2 (Nat.le_refl _)
  have CF := Lib.hid (fun W (q : Below w.heap.size w W) => firstOnT xs ao cap s _ W B (h.below (q.mono hB)) (Nat.le_trans hB q.size) hx hs rfl)
  have CL : Hid (∀ (p : Nat) W, Below w.heap.size w W → p ≤ 100 → plT s ≤ p → Calls Try.prog 115 #[aggT ao xs.length cap s, .int .i64 (p : Int), .func (.func 116) #[aggT ao xs.length cap s] #[]] W fun e w' => e = .returned (.int .i64 ((nxT (loudT xs s s.pOn) xs.length p : Nat) : Int)) ∧ Below W.heap.size W w') :=
    Lib.hid (fun p W q h1 h2 => nextLoudT xs ao cap s p _ W B (h.below (q.mono hB)) (Nat.le_trans hB q.size) hx hs h1 h2 rfl)
  have CQ : Hid (∀ (p : Nat) W, Below w.heap.size w W → p ≤ 100 → plT s ≤ p → Calls Try.prog 115 #[aggT ao xs.length cap s, .int .i64 (p : Int), .func (.func 120) #[aggT ao xs.length cap s] #[]] W fun e w' => e = .returned (.int .i64 ((nxT (quietT xs s s.pOff) xs.length p : Nat) : Int)) ∧ Below W.heap.size W w') :=
    Lib.hid (fun p W q h1 h2 => nextQuietT xs ao cap s p _ W B (h.below (q.mono hB)) (Nat.le_trans hB q.size) hx hs h1 h2 rfl)
  have HT : Hid (timesT xs s = goT (loudT xs s s.pOn) (quietT xs s s.pOff) xs.length (onT xs s s.pOn)) := Lib.hid (timesT_go xs s)
  have ho0 : onT xs s s.pOn ≤ xs.length := nxT_le _ _ _
  have ho1 : onT xs s s.pOn < xs.length → plT s ≤ onT xs s s.pOn := fun h => by
    unfold onT at h ⊢
    by_cases e : xs.length ≤ plT s
    · rw [nxT_end e] at h; omega
    · exact nxT_ge _ _ _ (by omega)
  have HQ1 : Hid (∀ p, nxT (quietT xs s s.pOff) xs.length p ≤ xs.length ∧ (p ≤ xs.length → p ≤ nxT (quietT xs s s.pOff) xs.length p)) := Lib.hid (fun p => ⟨nxT_le _ _ _, nxT_ge _ _ _⟩)
  have HL1 : Hid (∀ p, nxT (loudT xs s s.pOn) xs.length p ≤ xs.length ∧ (p ≤ xs.length → p ≤ nxT (loudT xs s s.pOn) xs.length p)) := Lib.hid (fun p => ⟨nxT_le _ _ _, nxT_ge _ _ _⟩)
  have HE1 : Hid (∀ p, xs.length ≤ p → nxT (loudT xs s s.pOn) xs.length p = xs.length) := Lib.hid (fun p h => nxT_end h)
  have HO1 := Lib.hid ho1
  generalize timesT xs s = tms at *
  generalize onT xs s s.pOn = on0 at *
  generalize loudT xs s s.pOn = L at *
  generalize quietT xs s s.pOff = Q at *
  generalize plT s = pl at *
  clear h hx hs ho1
  go_enter Try.func81, Try.ntmps81
  go_wp2_with fail
  refine (CF.out _ N1).mono ?_
  rintro e w1 ⟨rfl, hb⟩
  have bx1 := bx0.below hb
  have hr1 := row_below hr0 hb
  have B1 := N1.trans (hb.mono N1.size)
  clear hb bx0 hr0 N1
  go_wp2
  go_loopw [3, 4, 5] (fun o i j wr => ∃ (k q g cp : Nat) (rows : List (Int × Int)), i = .int .i64 (k : Int) ∧ k ≤ xs.length ∧ q ≤ k ∧ Hid (k < xs.length → pl ≤ k) ∧ o = .slice (some ⟨g, 0, none⟩) q cp ∧ wr.ownsRow (w.heap.size + 1) 55 2 (.slice (some ⟨g, 0, none⟩) q cp) q (rows.flatMap encA2) ∧ Hid (rows.length = q) ∧ Hid (rows ++ goT L Q xs.length k = tms)
      ∧ Bx wr w.heap.size (celT ao xs.length cap s) ∧ Below w.heap.size w wr) (fun _ i _ _ => xs.length - (intOf i).toNat)
  case atStart => exact ⟨on0, 0, _, _, [], rfl, ho0, Nat.zero_le _, HO1, rfl, hr1, Lib.hid rfl, Lib.hid HT.out.symm, bx1, B1⟩
  case round =>
    obtain ⟨k, q, g, cp, rows, rfl, hk, hqk, HPK, rfl, hrow, HRL, HRW, bx, hbl⟩ := hrel
    clear bx1 hr1 B1
    have hsz := hbl.size
    have c0 := bx.2 0 _ rfl
    have c1 := bx.2 1 _ rfl
    have c2 := bx.2 2 _ rfl
    have c3 := bx.2 3 _ rfl
    have c4 := bx.2 4 _ rfl
    by_cases hlt : k < xs.length
    case neg =>
      have HE : Hid (rows = tms) := Lib.hid (by rw [← HRW.out, goT_end L Q (by omega), List.append_nil])
      have hlt2 : ¬ (k : Int) < (xs.length : Int) := by omega
      go_wp2
      go_ret
      refine ⟨_, rfl, ?_, hbl⟩
      have := OwnK.of_row encA2_len (by omega) hrow
      rw [HE.out] at this
      have e : tms.length = q := by rw [← HE.out]; exact HRL.out
      exact this.mono (by omega) (Nat.le_refl _)
    have hlt2 : (k : Int) < (xs.length : Int) := by omega
    have hpk := HPK.out hlt
    have hk24 : (k : Int) < 24 := by omega
    have C1 := CQ.out (k + 1) wr hbl (by omega) (by omega)
    obtain ⟨f1, f2⟩ := HQ1.out (k + 1)
    have HST := Lib.hid (goT_step L Q hlt)
    have hf2 := f2 (by omega)
    generalize nxT Q xs.length (k + 1) = off at *
    have C2 := fun W q => CL.out (off + 1) W q (by omega) (by omega)
    obtain ⟨g1, g2⟩ := HL1.out (off + 1)
    have hge : xs.length ≤ off + 1 → nxT L xs.length (off + 1) = xs.length := HE1.out (off + 1)
    generalize nxT L xs.length (off + 1) = on2 at *
    have hon2 : k < on2 := by
      by_cases e : off + 1 ≤ xs.length
      · have := g2 e; omega
      · have := hge (by omega); omega
    have HPK2 : Hid (on2 < xs.length → pl ≤ on2) := Lib.hid (fun _ => by omega)
    have HR2 : Hid ((rows ++ [((k : Int), (off : Int))]) ++ goT L Q xs.length on2 = tms) := Lib.hid (by rw [← HRW.out, HST.out, List.append_assoc]; rfl)
    have HRL2 : Hid ((rows ++ [((k : Int), (off : Int))]).length = q + 1) := Lib.hid (by rw [List.length_append, HRL.out]; rfl)
    have HFL : Hid ((rows ++ [((k : Int), (off : Int))]).flatMap encA2 = rows.flatMap encA2 ++ [.int .i64 (k : Int), .int .i64 (off : Int)]) := Lib.hid (by rw [List.flatMap_append]; rfl)
    have HC1 : Hid (Calls Try.prog 115 #[aggT ao xs.length cap s, .int .i64 ((k : Int) + 1), .func (.func 120) #[aggT ao xs.length cap s] #[]] wr fun e w' => e = .returned (.int .i64 (off : Int)) ∧ Below wr.heap.size wr w') := Lib.hid (by rw [show ((k : Int) + 1) = ((k + 1 : Nat) : Int) by omega]; exact C1)
    have HC2 : Hid (∀ W, Below w.heap.size w W → Calls Try.prog 115 #[aggT ao xs.length cap s, .int .i64 ((off : Int) + 1), .func (.func 116) #[aggT ao xs.length cap s] #[]] W fun e w' => e = .returned (.int .i64 (on2 : Int)) ∧ Below W.heap.size W w') := Lib.hid (fun W q => by rw [show ((off : Int) + 1) = ((off + 1 : Nat) : Int) by omega]; exact C2 W q)
    have hoff24 : (off : Int) ≤ 24 := by omega
    generalize rows.flatMap encA2 = rr at *
    have HBX := Lib.hid bx
    clear C1 C2 f2 g2 hge HST bx
    go_wp2_with fail
    refine HC1.out.mono ?_
    rintro e w2 ⟨rfl, hb⟩
    have bx2 := HBX.out.below hb
    have hrow2 := row_below hrow hb
    have hbl2 := hbl.trans (hb.mono hsz)
    have hsz2 := hbl2.size
    clear c0 c1 c2 c3 c4 hb hrow hbl HBX HC1
    have c0 := bx2.2 0 _ rfl
    have c1 := bx2.2 1 _ rfl
    have c2 := bx2.2 2 _ rfl
    have c3 := bx2.2 3 _ rfl
    have c4 := bx2.2 4 _ rfl
    go_wp2_with (at_builtin; refine wpList_append_srcK _ rfl _ _ 43 rfl (w.heap.size + 1) 55 ti (.agg #[.int .i64 0, .int .i64 0]) 2 16 Try.underlying43 hi hz0 hz1 hz2 rfl (by decide) _ q rr rfl (hrow2.alloc _) _ 1 [.int .i64 (k : Int), .int .i64 (off : Int)] rfl (srcK_two _ _ _ _) (by unfold maxLen; omega) (by omega) (by have := bx2.1.1; simp; omega) ?_; intro v' w5 hown hgrow _; have hbl5 : Below w.heap.size w w5 := (hbl2.alloc hsz2 (.cells #[.int .i64 (k : Int), .int .i64 (off : Int)] 55)).grown hgrow (by simp; omega) (fun g e => by have := (hrow2.lt g e).1; omega); have bx5 : Bx w5 w.heap.size (celT ao xs.length cap s) := (bx2.alloc (.cells #[.int .i64 (k : Int), .int .i64 (off : Int)] 55)).grown hgrow (fun e => by have q1 := (hrow2.lt _ e.symm).1; omega); clear c0 c1 c2 c3 c4 bx2 hrow2 hbl2; have c0 := bx5.2 0 _ rfl; have c1 := bx5.2 1 _ rfl; have c2 := bx5.2 2 _ rfl; have c3 := bx5.2 3 _ rfl; have c4 := bx5.2 4 _ rfl; obtain ⟨g5, cp5, rfl, -, -, -, -⟩ := row_some hown (by omega))
    have HRW5 : w5.ownsRow (w.heap.size + 1) 55 2 (.slice (some ⟨g5, 0, none⟩) (q + 1) cp5) (q + 1) ((rows ++ [((k : Int), (off : Int))]).flatMap encA2) := by rw [HFL.out]; exact hown
    refine (HC2.out _ hbl5).mono ?_
    rintro e w6 ⟨rfl, hb⟩
    have bx6 := bx5.below hb
    have HRW6 := row_below HRW5 hb
    have hbl6 := hbl5.trans (hb.mono hbl5.size)
    clear hown hgrow c0 c1 c2 c3 c4 bx5 HRW5 hbl5 hb
    go_wp2
    go_roundw
    case rel => exact ⟨on2, q + 1, g5, cp5, _, rfl, g1, by omega, HPK2, rfl, HRW6, HRL2, HR2, bx6, hbl6⟩
    case measure => simp [intOf]; omega
end Go.Proofs.Ytklilfbokpljkab
