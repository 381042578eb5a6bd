/- Votes: the events, by the program. -/
import Derived.Test.YtoogofceoinniabVpK
import Derived.Test.YtoogofceoinniabVoI
namespace Go.Proofs.Ytoogofceoinniab
open Go.ChangeShapes Go.WideShapes Go.ChangeAt Go.RowKit Go.ChangeMaps Go.Sort Go.Shelf
set_option linter.unusedSimpArgs false
set_option linter.unusedVariables false
set_option linter.unusedSimpArgs false
set_option linter.unusedVariables false

theorem put_grown {w : World} {b ad : Nat} : ∀ (cs : List Value) (W : World) (s : Nat), w.grownBy W (some b) → w.grownBy (putCells W b ad cs s) (some b)
  | [], _, _, h => h
  | c :: cs, W, s, h => put_grown cs _ (s + 1) ⟨h.os, h.tape, h.output, by have := h.size; simp [World.setCell]; exact this, fun k hk hne => by
      rw [Below.heap_setCell W ⟨b, ad + s, none⟩ c k (by have : b ≠ k := fun e => hne (by rw [e]); simp only; omega)]
      exact h.block k hk hne⟩
theorem grown_self (w : World) (r : Option Nat) : w.grownBy w r := ⟨rfl, rfl, rfl, Nat.le_refl _, fun _ _ _ => rfl⟩
set_option maxRecDepth 100000 in
set_option maxHeartbeats 8000000 in
theorem implEf (xs : List GArrival) (v : Value) (step least : Int) (w : World) (B : Nat) (h : ArrivalL w B v xs) (hB : B ≤ w.heap.size) (hn : szsArrival xs ≤ 1048576) (hw : ∀ s ∈ xs, wfArrival s) (_ : I64 step) (_ : I64 least) :
    Calls Try.prog 39 #[v, .int .i64 step, .int .i64 least] w fun e w' => ∃ v', e = .returned (.tuple #[v', .bool (okEf xs step least)]) ∧ OriginO w' w.heap.size w'.heap.size v' (resEf xs step least) ∧ Below w.heap.size w w' := by
  have hl := Nat.le_trans (szsArrival_len xs) hn
  have CG := Lib.hid (fun u W (q : Below w.heap.size w W) hu => implGoodA xs v u W B (h.below (q.mono hB)) (Nat.le_trans hB q.size) hl hu)
  have CS := Lib.hid (fun u W hu => implStepB step u W hu)
  have CI := Lib.hid (fun u W hu => withinOneV 1 8 least _ u _ (Bx.new W [.int .i64 least] 3) hu)
  have N0 : Below w.heap.size w w := Below.refl _ _
  cases h1 : goodAr xs with
  | false =>
    have C1 := Lib.hid (fun W q => CG.out false W q h1)
    have e : okEf xs step least = false := by unfold okEf askBg; rw [h1]; rfl
    rw [e, resEf_no e]
    obtain ⟨ao, cap, rfl⟩ := h.form
    clear h h1 CG CS CI e
    go_enter Try.func39, Try.ntmps39
    go_wp2_with fail
    refine (C1.out _ N0).mono ?_
    rintro e w1 ⟨rfl, hb⟩
    have N1 := hb
    go_wp2
    go_ret2
    exact ⟨_, rfl, ownK_empty encOrigin_len (by omega) _ 30 N1.size, N1.alloc N1.size _⟩
  | true =>
  have C1 := Lib.hid (fun W q => CG.out true W q h1)
  cases h2 : inB step 50 500 with
  | false =>
    have C2 := Lib.hid (fun W => CS.out false W h2)
    have e : okEf xs step least = false := by unfold okEf askBg; rw [h2, Bool.and_false]; rfl
    rw [e, resEf_no e]
    obtain ⟨ao, cap, rfl⟩ := h.form
    clear h h1 h2 CG CS CI e
    go_enter Try.func39, Try.ntmps39
    go_wp2_with fail
    refine (C1.out _ N0).mono ?_
    rintro e w1 ⟨rfl, hb⟩
    have N1 := hb
    go_wp2_with fail
    refine (C2.out _).mono ?_
    rintro e w2 ⟨rfl, hb2⟩
    have N2 := N1.trans (hb2.mono N1.size)
    go_wp2
    go_ret2
    exact ⟨_, rfl, ownK_empty encOrigin_len (by omega) _ 30 N2.size, N2.alloc N2.size _⟩
  | true =>
  have C2 := Lib.hid (fun W => CS.out true W h2)
  cases h3 : inB least 1 8 with
  | false =>
    have C3 := Lib.hid (fun W => CI.out false W h3)
    have e : okEf xs step least = false := by unfold okEf; rw [h3, Bool.and_false]
    rw [e, resEf_no e]
    obtain ⟨ao, cap, rfl⟩ := h.form
    clear h h1 h2 h3 CG CS CI e
    go_enter Try.func39, Try.ntmps39
    go_wp2_with fail
    refine (C1.out _ N0).mono ?_
    rintro e w1 ⟨rfl, hb⟩
    have N1 := hb
    go_wp2_with fail
    refine (C2.out _).mono ?_
    rintro e w2 ⟨rfl, hb2⟩
    have N2 := N1.trans (hb2.mono N1.size)
    have N3 := N2.alloc N2.size (.cells #[.int .i64 least] 3)
    go_wp2_with fail
    refine (C3.out _).mono ?_
    rintro e w3 ⟨rfl, q3⟩
    subst q3
    generalize w2.alloc (.cells #[.int .i64 least] 3) = W4 at *
    go_wp2
    go_ret2
    exact ⟨_, rfl, ownK_empty encOrigin_len (by omega) _ 30 N3.size, N3.alloc N3.size _⟩
  | true =>
  have C3 := Lib.hid (fun W => CI.out true W h3)
  have e : okEf xs step least = true := by unfold okEf askBg; rw [h1, h2, h3]; rfl
  obtain ⟨hok, hs, hle⟩ := okEf_yes e
  obtain ⟨K, hK, hE⟩ := endV_ex hok hs hle.1
  rw [e, resEf_yes e hE]
  have HE := Lib.hid hE
  have HOK := Lib.hid hok
  have HS := Lib.hid hs
  have HLE := Lib.hid hle
  have hl8 := hok.2
  have CB := Lib.hid (fun W k (b : Value) (hb : ArrivalL W W.heap.size b (leftV xs step k)) p hp => implBest (leftV xs step k) b step p W W.heap.size hb (Nat.le_refl _) (leftV_ok hok step k) hs hp)
  have CR := Lib.hid (fun W k (b : Value) (hb : ArrivalL W W.heap.size b (leftV xs step k)) o ho => implRest (leftV xs step k) b o W W.heap.size hb (Nat.le_refl _) (leftV_ok hok step k) ho)
  have HL0 := Lib.hid h
  obtain ⟨ao, cap, rfl⟩ := h.form
  have hne0 := h.apart
  obtain ⟨ti, hti, hz0, hz1, hz2⟩ := info_parts info_Origin
  clear CG CS CI e h1 h2 h3 hE hok hs hle h
  go_enter Try.func39, Try.ntmps39
  go_wp2_with fail
  refine (C1.out _ N0).mono ?_
  rintro e w1 ⟨rfl, hb⟩
  have N1 := hb
  go_wp2_with fail
  refine (C2.out _).mono ?_
  rintro e w2 ⟨rfl, hb2⟩
  have N2 := N1.trans (hb2.mono N1.size)
  have N3 := N2.alloc N2.size (.cells #[.int .i64 least] 3)
  clear hb hb2 N1
  go_wp2_with fail
  refine (C3.out _).mono ?_
  rintro e w3 ⟨rfl, q3⟩
  subst q3
  generalize w2.alloc (.cells #[.int .i64 least] 3) = W4 at *
  have hrow0 := rowK_empty W4 (base := W4.heap.size) 30 3 (Nat.le_refl _)
  have N4 := N3.alloc N3.size (.cells #[] 30)
  have HL4 := Lib.hid ((HL0.out.below (N4.mono hB)).mono (Nat.le_trans hB N4.size))
  obtain ⟨⟨⟨px, py, pt⟩, pn⟩, hp⟩ : ∃ p, bestV (leftV xs step 0) step = p := ⟨_, rfl⟩
  have HF0 := bestV_fine (leftV_ok HOK.out step 0) HS.out
  rw [hp] at HF0
  have hpn0 : 0 ≤ pn := HF0.2.1.1
  have hpn8 : pn ≤ 8 := HF0.2.1.2
  have CB0 := Lib.hid (CB.out _ 0 _ HL4.out _ hp)
  have HP0 := Lib.hid hp
  have z3 := N3.size
  have BW : Below W4.heap.size W4 (W4.alloc (.cells #[] 30)) := (Below.refl _ _).alloc (Nat.le_refl _) _
  clear hp HF0
  go_wp2_with fail
  refine CB0.out.mono ?_
  rintro e w6 ⟨rfl, hb6⟩
  have N6 := BW.trans (hb6.mono BW.size)
  have hr6 := row_below hrow0 hb6
  have L6 := Lib.hid ((HL4.out.below hb6).mono hb6.size)
  have z46 : W4.heap.size + 1 ≤ w6.heap.size := by have := hb6.size; simpa using this
  clear hrow0 HL4 CB0 hb6 BW N4
  obtain ⟨W7, hW7⟩ : ∃ W7, w6.alloc (.cells #[.int .i64 px, .int .i64 py, .int .i64 pt, .int .i64 pn] 93) = W7 := ⟨_, rfl⟩
  have A7 : Below w6.heap.size w6 W7 := hW7 ▸ (Below.refl _ _).alloc (Nat.le_refl _) _
  have bB7 : Bx W7 w6.heap.size [.int .i64 px, .int .i64 py, .int .i64 pt, .int .i64 pn] := hW7 ▸ Bx.new w6 [.int .i64 px, .int .i64 py, .int .i64 pt, .int .i64 pn] 93
  have N7 := N6.trans (A7.mono N6.size)
  have hr7 := row_below hr6 A7
  have L7 := Lib.hid ((L6.out.below A7).mono A7.size)
  clear hr6 L6 A7
  go_wp2
  clear hW7
  go_loopw [0, 8] (fun rv ov wr => ∃ (k rn : Nat) (ra : Option Addr) (rc : Nat) (ox oy ot n : Int), k ≤ K ∧ rv = .slice ra rn rc ∧ (∃ ao cap, ov = .slice ao k cap) ∧ wr.ownsRow W4.heap.size 30 3 ov k ((evsV xs step k).flatMap encOrigin) ∧ ArrivalL wr wr.heap.size (.slice ra rn rc) (leftV xs step k) ∧ (∀ b off, ra = some ⟨b, off, none⟩ → 0 < rn → some b ≠ ov.ownBlock ∧ b ≠ w6.heap.size) ∧ ov.ownBlock ≠ some w6.heap.size ∧ Hid (bestV (leftV xs step k) step = (⟨ox, oy, ot⟩, n)) ∧ (0 ≤ n ∧ n ≤ 8) ∧ Bx wr w6.heap.size [.int .i64 ox, .int .i64 oy, .int .i64 ot, .int .i64 n] ∧ Below W4.heap.size W4 wr)
    (fun _ ov _ => K + 1 - lenOf ov)
  case atStart =>
    refine ⟨0, xs.length, ao, cap, px, py, pt, pn, Nat.zero_le _, rfl, ⟨_, _, rfl⟩, hr7, L7.out, fun b off e h0 => ?_, fun e => ?_, HP0, ⟨hpn0, hpn8⟩, bB7, N7⟩
    · have h9 := hne0 b off e h0
      exact ⟨fun e2 => by have h8 := Option.some.inj e2; simp only at h8; omega, by omega⟩
    · have h8 : W4.heap.size = w6.heap.size := Option.some.inj e
      omega
  case round =>
    obtain ⟨k, rn, ra, rc, ox, oy, ot, n, hk, rfl, ⟨oa, oc, rfl⟩, hrow, hlst, hne, hneb, HP, ⟨hn0, hn8⟩, bB, hbl⟩ := hrel
    clear bB7 N7 hr7 L7 N6 HP0
    have hsz := hbl.size
    have N8 := N3.trans (hbl.mono z3)
    obtain ⟨hle0, hle1⟩ := HLE.out
    have b0 := bB.2 0 _ rfl
    have b1 := bB.2 1 _ rfl
    have b2 := bB.2 2 _ rfl
    have b3 := bB.2 3 _ rfl
    by_cases hq : n < least
    case pos =>
      have hkK : k = K := endV_one ⟨by rw [HP.out]; exact hq, fun j hj => HE.out.2 j (by omega)⟩ HE.out
      obtain rfl := hkK
      have hq' : ¬ least ≤ n := by omega
      go_wp2
      go_ret2
      exact ⟨_, rfl, (OwnK.of_row encOrigin_len (by omega) hrow).mono z3 (Nat.le_refl _), N8⟩
    case neg =>
      have hkK : k < K := by
        rcases Nat.lt_or_ge k K with q | q
        · exact q
        · have hkk : k = K := by omega
          have := HE.out.1
          rw [← hkk, HP.out] at this
          exact absurd this hq
      have hq' : least ≤ n := by omega
      have HEV : Hid (evsV xs step k ++ [⟨ox, oy, ot⟩] = evsV xs step (k + 1)) := Lib.hid (by rw [evsV_succ, HP.out])
      have HLF : Hid (leftV xs step (k + 1) = restV (leftV xs step k) ⟨ox, oy, ot⟩) := Lib.hid (by show restV _ _ = _; rw [HP.out])
      have HOO : Hid (okOr ⟨ox, oy, ot⟩) := Lib.hid (by have := (bestV_fine (leftV_ok HOK.out step k) HS.out).1; rw [HP.out] at this; exact this)
      have HSRC := Lib.hid (srcK_box (Bx.new wr (encOrigin ⟨ox, oy, ot⟩) 30) (oneCellO ⟨ox, oy, ot⟩))
      have HL4 := Lib.hid (hlst.below ((Below.refl _ _).alloc (Nat.le_refl _) (.cells (encOrigin ⟨ox, oy, ot⟩).toArray 30)))
      have bB4 := bB.alloc (.cells (encOrigin ⟨ox, oy, ot⟩).toArray 30)
      have hlen : (evsV xs step k).length = k := evsV_len xs step k
      have hlt3 : ∀ b, Value.ownBlock (.slice oa k oc) = some b → b < wr.heap.size := fun b hb => (hrow.lt b hb).2
      generalize evsV xs step k = es at *
      clear hlen hlst
      go_wp2_with (
        at_builtin
        refine wpList_append_srcK _ rfl _ _ 58 rfl W4.heap.size 30 ti (.agg #[.int .i64 0, .int .i64 0, .int .i64 0]) 3 24 Try.underlying58 hti hz0 hz1 hz2 rfl (by decide) _ k (es.flatMap encOrigin) rfl (hrow.alloc _) _ 1 (encOrigin ⟨ox, oy, ot⟩) rfl HSRC.out (by unfold maxLen; omega) (by omega) (by first | omega | (simp; done) | (simp; omega)) ?_
        intro v5 w5 hown5 hgrow5 hat5
        have bB5 := bB4.grown hgrow5 (fun e => hneb e.symm)
        have b05 := bB5.2 0 _ rfl
        have b15 := bB5.2 1 _ rfl
        have b25 := bB5.2 2 _ rfl
        have b35 := bB5.2 3 _ rfl)
      have hrow5 : w5.ownsRow W4.heap.size 30 3 v5 (k + 1) ((evsV xs step (k + 1)).flatMap encOrigin) := by
        rw [← HEV.out, List.flatMap_append, List.flatMap_singleton]
        exact hown5
      have hg5 : (wr.alloc (.cells #[.int .i64 ox, .int .i64 oy, .int .i64 ot] 30)).grownBy w5 (Value.ownBlock (.slice oa k oc)) := hgrow5
      have hat5' : v5.ownBlock = Value.ownBlock (.slice oa k oc) ∨ v5.ownBlock = some (wr.heap.size + 1) := by
        rcases hat5 with e | e
        · exact Or.inl e
        · exact Or.inr (by rw [e]; simp)
      have A4 : Below W4.heap.size W4 (wr.alloc (.cells #[.int .i64 ox, .int .i64 oy, .int .i64 ot] 30)) := hbl.alloc hsz _
      have z4 : (wr.alloc (.cells #[.int .i64 ox, .int .i64 oy, .int .i64 ot] 30)).heap.size = wr.heap.size + 1 := by simp
      have N5 : Below W4.heap.size W4 w5 := A4.grown hg5 (by omega) (fun q hq => (hrow.lt q hq).1)
      have L5 : ArrivalL w5 wr.heap.size (.slice ra rn rc) (leftV xs step k) := by
        exact HL4.out.grown (by simp) hg5 (fun b off e h0 => (hne b off e h0).1)
      have z5 := hg5.size
      have zz5 : wr.heap.size + 1 ≤ w5.heap.size := by rw [← z4]; exact z5
      have CR5 := Lib.hid (CR.out w5 k _ (L5.mono (by omega)) ⟨ox, oy, ot⟩ HOO.out)
      have hltB := bB.1.1
      have hneb5 : v5.ownBlock ≠ some w6.heap.size := fun e => by
        rcases hat5' with q | q
        · exact hneb (q ▸ e)
        · rw [q] at e
          have := Option.some.inj e
          omega
      obtain ⟨a5, c5, rfl⟩ := row_form hrow5
      have hlt5 : ∀ b, Value.ownBlock (.slice a5 (k + 1) c5) = some b → b < w5.heap.size := fun b hb => (hrow5.lt b hb).2
      clear hown5 hgrow5 hat5 hat5' hg5 b05 b15 b25 b35 bB4 HL4 HSRC b0 b1 b2 b3 bB hrow L5 hne hneb hbl A4
      refine CR5.out.mono ?_
      rintro e w7 ⟨v7, rfl, hown7, hb7⟩
      have N7 := N5.trans (hb7.mono N5.size)
      have hr7 := row_below hrow5 hb7
      have bB7 := bB5.below hb7
      obtain ⟨a7, c7, rfl⟩ := hown7.form
      have hap := hown7.apart
      rw [← HLF.out] at hown7
      have hlen7 : (restV (leftV xs step k) ⟨ox, oy, ot⟩).length = (leftV xs step (k + 1)).length := by rw [HLF.out]
      rw [hlen7] at hap ⊢
      obtain ⟨⟨⟨px', py', pt'⟩, pn'⟩, hp'⟩ : ∃ p, bestV (leftV xs step (k + 1)) step = p := ⟨_, rfl⟩
      have HF0 := bestV_fine (leftV_ok HOK.out step (k + 1)) HS.out
      rw [hp'] at HF0
      have hpn0' : 0 ≤ pn' := HF0.2.1.1
      have hpn8' : pn' ≤ 8 := HF0.2.1.2
      have CB8 := Lib.hid (CB.out w7 (k + 1) _ hown7.lst _ hp')
      have HP8 := Lib.hid hp'
      have HO7 := Lib.hid hown7.lst
      have z7 := hb7.size
      generalize hrn : (leftV xs step (k + 1)).length = rn' at *
      have HRN := Lib.hid hrn
      clear hp' HF0 hown7 hb7 hrow5 bB5 CR5 hlen7 hrn
      go_wp2_with fail
      refine CB8.out.mono ?_
      rintro e w8 ⟨rfl, hb8⟩
      have N8 := N7.trans (hb8.mono N7.size)
      have hr8 := row_below hr7 hb8
      have bB8 := bB7.below hb8
      have L8 := (HO7.out.below hb8).mono hb8.size
      clear hr7 bB7 hb8 CB8 N7
      have bB9 := bB8.puts (ds := [.int .i64 px', .int .i64 py', .int .i64 pt', .int .i64 pn']) rfl
      have hg9 : w8.grownBy (putCells w8 w6.heap.size 0 [.int .i64 px', .int .i64 py', .int .i64 pt', .int .i64 pn'] 0) (some w6.heap.size) := put_grown _ _ _ (grown_self w8 _)
      have hr9 := hr8.kept hg9 (Or.inr hneb5)
      have L9 := (L8.grown (Nat.le_refl _) hg9 (fun b off e h0 => by
        have := hap b off e (by omega)
        exact fun e2 => by have := Option.some.inj e2; omega)).mono (Nat.le_of_eq (putCells_size w6.heap.size 0 [.int .i64 px', .int .i64 py', .int .i64 pt', .int .i64 pn'] w8 0).symm)
      have N9 := below_putCells N8 (b := w6.heap.size) (by omega) 0 [.int .i64 px', .int .i64 py', .int .i64 pt', .int .i64 pn'] 0
      have b0 := bB8.2 0 _ rfl
      have b1 := bB8.2 1 _ rfl
      have b2 := bB8.2 2 _ rfl
      have b3 := bB8.2 3 _ rfl
      have bf := bB8.1.2
      go_wp2
      go_roundw
      case rel =>
        refine ⟨k + 1, rn', a7, c7, px', py', pt', pn', by omega, rfl, ⟨_, _, rfl⟩, hr9, L9, fun b off e h0 => ?_, hneb5, HP8, ⟨hpn0', hpn8'⟩, bB9, N9⟩
        have h9 := hap b off e h0
        exact ⟨fun e2 => by have := hlt5 b e2.symm; omega, by omega⟩
      case measure => simp [lenOf]; omega
end Go.Proofs.Ytoogofceoinniab
