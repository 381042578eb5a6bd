/- Location by boxes: the specification's small cubes, all of them. -/
import Derived.Test.YtoogofceoinniaaLoC
import Derived.Test.YtoogofceoinniaaLoT
namespace Go.Proofs.Ytoogofceoinniaa
open Go.ChangeShapes Go.WideShapes Go.ChangeAt Go.RowKit Go.ChangeMaps Go.Sort
set_option linter.unusedSimpArgs false
set_option linter.unusedVariables false
set_option linter.unusedSimpArgs false
set_option linter.unusedVariables false

theorem cubeL_src {w : World} {L B : Nat} {v : Value} {xs : List GCube} (h : CubeO w L B v xs) : (v = .slice none 0 0 ∧ xs = []) ∨ ∃ a c, v = .slice (some a) xs.length c ∧ SrcK w 5 v xs.length (xs.flatMap encCube) := by
  rcases h.lst.split encCube_len (by omega) with ⟨h1, h2⟩ | ⟨a, cap, h1, h2, h3, h4⟩
  · exact Or.inl ⟨h1, h2⟩
  · exact Or.inr ⟨a, cap, h1, a, cap, h1, flat_len encCube_len xs, fun j u hu => (h4 j u hu).2, oneCube xs⟩
theorem ownCb_one (b : GCube) (w : World) {L : Nat} (T : TypeId) (h : L ≤ w.heap.size) : CubeO (w.alloc (.cells #[.int .i64 b.pWest, .int .i64 b.pSouth, .int .i64 b.pSide, .int .i64 b.pFrom, .int .i64 b.pTo] T)) L (w.alloc (.cells #[.int .i64 b.pWest, .int .i64 b.pSouth, .int .i64 b.pSide, .int .i64 b.pFrom, .int .i64 b.pTo] T)).heap.size (.slice (some ⟨w.heap.size, 0, none⟩) 1 1) [b] := by
  have r : (w.alloc (.cells #[.int .i64 b.pWest, .int .i64 b.pSouth, .int .i64 b.pSide, .int .i64 b.pFrom, .int .i64 b.pTo] T)).ownsRow L T 5 (.slice (some ⟨w.heap.size, 0, none⟩) 1 1) 1 ([b].flatMap encCube) :=
    ⟨by simp [encCube], .inr ⟨w.heap.size, 1, #[.int .i64 b.pWest, .int .i64 b.pSouth, .int .i64 b.pSide, .int .i64 b.pFrom, .int .i64 b.pTo], rfl, h, heap_alloc_new w _, Nat.le_refl _, by simp [maxLen], rfl, rfl⟩⟩
  exact OwnK.of_row encCube_len (by omega) r
set_option maxRecDepth 100000 in
set_option maxHeartbeats 8000000 in
theorem specAll (xs : List GArrival) (s : Int) (hok : okArs xs) (hs : okSide s) : ∀ (e : Nat) (b : GCube) (v : Value) (w : World) (B : Nat), okCb b → b.pSide = s * 2 ^ e → ArrivalL w B v xs → B ≤ w.heap.size →
    Calls Try.prog 65 #[v, aggCb b, .int .i64 s, .int .i64 64] w fun e' w' => ∃ v', e' = .returned v' ∧ ∃ r, cutC r (allV xs e b) 64 ∧ CubeO w' w.heap.size w'.heap.size v' r ∧ Below w.heap.size w w' := by
  intro e
  induction e with
  | zero =>
    intro b v w B hb he h hB
    have HE0 := Lib.hid (exp_zero he)
    clear he
    obtain ⟨W0, hW0⟩ : ∃ W0, w.alloc (objCb b) = W0 := ⟨_, rfl⟩
    have N0 : Below w.heap.size w W0 := hW0 ▸ (Below.refl w.heap.size w).alloc (Nat.le_refl _) _
    have bB : Bx W0 w.heap.size [.int .i64 b.pWest, .int .i64 b.pSouth, .int .i64 b.pSide, .int .i64 b.pFrom, .int .i64 b.pTo] := hW0 ▸ Bx.new w [.int .i64 b.pWest, .int .i64 b.pSouth, .int .i64 b.pSide, .int .i64 b.pFrom, .int .i64 b.pTo] 25
    have z0 := N0.size
    have b0 := bB.2 0 _ rfl
    have b1 := bB.2 1 _ rfl
    have b2 := bB.2 2 _ rfl
    have b3 := bB.2 3 _ rfl
    have b4 := bB.2 4 _ rfl
    obtain ⟨u, hu⟩ : ∃ u, canV xs b = u := ⟨_, rfl⟩
    have CC := Lib.hid (specCan xs v b u W0 B (h.below (N0.mono hB)) (Nat.le_trans hB z0) hok hb hu)
    obtain ⟨ao, cap, rfl⟩ := h.form
    clear h
    cases u with
    | false =>
      have HV := Lib.hid (allV_no hu 0)
      clear hu
      go_enter Try.func65, Try.ntmps65
      go_wp2_with fail
      refine CC.out.mono ?_
      rintro e w1 ⟨rfl, hb1⟩
      have N1 := N0.trans (hb1.mono z0)
      go_wp2
      go_ret
      exact ⟨_, rfl, [], by rw [HV.out]; exact cutC_nil _, ownK_empty encCube_len (by omega) _ 25 N1.size, N1.alloc N1.size _⟩
    | true =>
      have HV := Lib.hid (allV_leaf hu)
      clear hu
      go_enter Try.func65, Try.ntmps65
      go_wp2_with fail
      refine CC.out.mono ?_
      rintro e w1 ⟨rfl, hb1⟩
      have N1 := N0.trans (hb1.mono z0)
      have bB1 := bB.below hb1
      clear b0 b1 b2 b3 b4 bB
      have b0 := bB1.2 0 _ rfl
      have b1 := bB1.2 1 _ rfl
      have b2 := bB1.2 2 _ rfl
      have b3 := bB1.2 3 _ rfl
      have b4 := bB1.2 4 _ rfl
      rw [HE0.out] at b2
      have HO := Lib.hid (ownCb_one b w1 25 N1.size)
      rw [HE0.out] at HO
      go_wp2
      go_ret
      exact ⟨_, rfl, [b], by rw [HV.out]; exact cutC_self _ _, HO.out, N1.alloc N1.size _⟩
  | succ e ih =>
    intro b v w B hb he h hB
    have IH := Lib.hid ih
    have HE := Lib.hid he
    obtain ⟨hn1, hh, hns⟩ := exp_half hs he
    have h9 := exp_nine hb hs he
    have hm9 := pow_nine h9
    have HS1 := Lib.hid (fun p hp => split_ok (p := p) hb hs he hp)
    clear ih he hh
    obtain ⟨W0, hW0⟩ : ∃ W0, w.alloc (objCb b) = W0 := ⟨_, rfl⟩
    have N0 : Below w.heap.size w W0 := hW0 ▸ (Below.refl w.heap.size w).alloc (Nat.le_refl _) _
    have bB : Bx W0 w.heap.size [.int .i64 b.pWest, .int .i64 b.pSouth, .int .i64 b.pSide, .int .i64 b.pFrom, .int .i64 b.pTo] := hW0 ▸ Bx.new w [.int .i64 b.pWest, .int .i64 b.pSouth, .int .i64 b.pSide, .int .i64 b.pFrom, .int .i64 b.pTo] 25
    have z0 := N0.size
    have b0 := bB.2 0 _ rfl
    have b1 := bB.2 1 _ rfl
    have b2 := bB.2 2 _ rfl
    have b3 := bB.2 3 _ rfl
    have b4 := bB.2 4 _ rfl
    obtain ⟨u, hu⟩ : ∃ u, canV xs b = u := ⟨_, rfl⟩
    have CC := Lib.hid (specCan xs v b u W0 B (h.below (N0.mono hB)) (Nat.le_trans hB z0) hok hb hu)
    have CSP := Lib.hid (fun W => specSplit b W hb hn1)
    have HL := Lib.hid (fun W (q : Below w.heap.size w W) => h.below (q.mono hB))
    obtain ⟨ao, cap, rfl⟩ := h.form
    clear h
    cases u with
    | false =>
      have HV := Lib.hid (allV_no hu (e + 1))
      clear hu
      go_enter Try.func65, Try.ntmps65
      go_wp2_with fail
      refine CC.out.mono ?_
      rintro e w1 ⟨rfl, hb1⟩
      have N1 := N0.trans (hb1.mono z0)
      go_wp2
      go_ret
      exact ⟨_, rfl, [], by rw [HV.out]; exact cutC_nil _, ownK_empty encCube_len (by omega) _ 25 N1.size, N1.alloc N1.size _⟩
    | true =>
      have HV := Lib.hid hu
      clear hu
      go_enter Try.func65, Try.ntmps65
      go_wp2_with fail
      refine CC.out.mono ?_
      rintro e9 w1 ⟨rfl, hb1⟩
      have N1 := N0.trans (hb1.mono z0)
      have bB1 := bB.below hb1
      clear b0 b1 b2 b3 b4 bB
      have b0 := bB1.2 0 _ rfl
      have b1 := bB1.2 1 _ rfl
      have b2 := bB1.2 2 _ rfl
      have b3 := bB1.2 3 _ rfl
      have b4 := bB1.2 4 _ rfl
      go_wp2_with fail
      refine (CSP.out _).mono ?_
      rintro e9 w2 ⟨v2, rfl, hown, hb2⟩
      obtain ⟨pa, pc, rfl, hpc, hpm, -, hpp⟩ := hown
      have HPC := Lib.hid hpp
      have N2 := N1.trans (hb2.mono N1.size)
      have z1 := N1.size
      have z12 := hb2.size
      obtain ⟨np, hnp⟩ : ∃ np, (splitV b).length = np := ⟨_, rfl⟩
      have hnp4 : np ≤ 4 := by rw [← hnp]; exact splitV_most b
      have HNP := Lib.hid hnp
      rw [hnp] at hpc
      unfold maxLen at hpm
      have HSM := Lib.hid (fun k => someV_most (xs := xs) (b := b) (e := e) k)
      obtain ⟨ti, hti, hz0, hz1, hz2⟩ := info_parts info_Cube
      have hrow0 := rowK_empty w2 (base := w2.heap.size) 25 5 (Nat.le_refl _)
      have B0 := (Below.refl w2.heap.size w2).alloc (Nat.le_refl _) (.cells #[] 25)
      rw [hnp]
      clear b0 b1 b2 b3 b4 hW0 bB1 hb1 hb2 N1 N0 hpp hnp
      go_wp2
      go_loopw [10, 11] (fun q i wr => ∃ (k n : Nat) (v : Value) (il : List GCube), k ≤ np ∧ i = .int .i64 k ∧ q = v ∧ Hid (il.length = n) ∧ n ≤ 262144 ∧ Hid (cutC il (someV xs e b k) 64) ∧ wr.ownsRow w2.heap.size 25 5 v n (il.flatMap encCube) ∧ (∃ ao cap, v = .slice ao n cap) ∧ Below w2.heap.size w2 wr)
        (fun _ i _ => np - (intOf i).toNat)
      case atStart => exact ⟨0, 0, _, [], Nat.zero_le _, rfl, rfl, Lib.hid rfl, Nat.zero_le _, Lib.hid (by rw [someV_zero]; exact cutC_nil _), hrow0, ⟨_, _, rfl⟩, B0⟩
      case round =>
        obtain ⟨k, n, _, il, hk, rfl, rfl, HLN, hn, HCU, hrow, ⟨oa, oc, rfl⟩, hbl⟩ := hrel
        have hsz := hbl.size
        have N3 := N2.trans (hbl.mono N2.size)
        clear hrow0 B0
        by_cases hlt : k < np
        case neg =>
          obtain rfl : k = np := by omega
          have HE2 : Hid (cutC il (allV xs (e + 1) b) 64) := Lib.hid (by rw [← someV_all HV.out e, HNP.out]; exact HCU.out)
          have hlt2 : ¬ (k : Int) < (k : Int) := by omega
          go_wp2
          go_ret
          exact ⟨_, rfl, il, HE2.out, (OwnK.of_row encCube_len (by omega) hrow).mono N2.size (Nat.le_refl _), N3⟩
        have hlt2 : (k : Int) < (np : Int) := by omega
        by_cases h64 : n ≤ 64
        case neg =>
          have HE2 : Hid (cutC il (allV xs (e + 1) b) 64) := Lib.hid (cut_some HV.out HCU.out (by rw [HLN.out]; omega))
          have h65 : ¬ (n : Int) ≤ 64 := by omega
          go_wp2
          go_ret
          exact ⟨_, rfl, il, HE2.out, (OwnK.of_row encCube_len (by omega) hrow).mono N2.size (Nat.le_refl _), N3⟩
        have h65 : (n : Int) ≤ 64 := by omega
        have hk0 : (0 : Int) ≤ (k : Int) := by omega
        obtain ⟨p, hp⟩ := get_of_lt (l := splitV b) (k := k) (by rw [HNP.out]; exact hlt)
        obtain ⟨gb, off, rfl, -, hgb, -, hcell, -⟩ := HPC.out k p hp
        obtain ⟨hpok, hps⟩ := HS1.out p (List.mem_of_getElem? hp)
        have CI := Lib.hid (IH.out p _ wr B hpok hps (HL.out wr N3) (Nat.le_trans hB N3.size))
        have HSS := Lib.hid (someV_succ (xs := xs) (e := e) hp)
        have c0 : wr.cell? ⟨gb, off + k * 5, none⟩ = some (.int .i64 p.pWest) := cellOf hbl hgb (hcell 0 _ rfl)
        have c1 : wr.cell? ⟨gb, off + k * 5 + 1, none⟩ = some (.int .i64 p.pSouth) := cellOf hbl hgb (hcell 1 _ rfl)
        have c2 : wr.cell? ⟨gb, off + k * 5 + 2, none⟩ = some (.int .i64 p.pSide) := cellOf hbl hgb (hcell 2 _ rfl)
        have c3 : wr.cell? ⟨gb, off + k * 5 + 3, none⟩ = some (.int .i64 p.pFrom) := cellOf hbl hgb (hcell 3 _ rfl)
        have c4 : wr.cell? ⟨gb, off + k * 5 + 4, none⟩ = some (.int .i64 p.pTo) := cellOf hbl hgb (hcell 4 _ rfl)
        clear hp hcell hpok hps
        go_wp2_with fail
        refine CI.out.mono ?_
        rintro e9 w4 ⟨v4, rfl, r, hcut, hown4, hb4⟩
        have hbl4 := hbl.trans (hb4.mono hsz)
        have z4 := hbl4.size
        have hrow4 := row_below hrow hb4
        have HCU2 : Hid (cutC (il ++ r) (someV xs e b (k + 1)) 64) := Lib.hid (by rw [HSS.out]; exact cutC_app HCU.out (by rw [HLN.out]; exact h64) hcut)
        have HLM := Lib.hid (Nat.le_trans (cutC_most HCU2.out (HSM.out (k + 1))) hm9)
        clear c0 c1 c2 c3 c4 hcut hrow hb4
        obtain ⟨m, hm⟩ : ∃ m, r.length = m := ⟨_, rfl⟩
        have hnm : n + m ≤ 262144 := by have := HLM.out; rw [List.length_append, HLN.out, hm] at this; exact this
        have HM : Hid ((il ++ r).length = n + m) := Lib.hid (by rw [List.length_append, HLN.out, hm])
        rcases cubeL_src hown4 with ⟨rfl, hr⟩ | ⟨a4, cp4, rfl, hsrc⟩
        · have hm0 : m = 0 := by rw [← hm, hr]; rfl
          have HR := Lib.hid hr
          subst hm0
          clear hr hm hown4
          go_wp2_with (at_builtin; refine wpList_append_own_none rfl _ _ 39 rfl w2.heap.size 25 ti 5 Try.underlying39 hti _ n (il.flatMap encCube) rfl hrow4 rfl ?_)
          go_wp2
          go_roundw
          case rel => exact ⟨k + 1, n, _, il ++ r, by omega, by go_num, rfl, HM, by omega, HCU2, (by rw [HR.out, List.append_nil]; exact hrow4), ⟨_, _, rfl⟩, hbl4⟩
          case measure => simp [intOf]; omega
        · rw [hm] at hsrc
          have HSRC := Lib.hid hsrc
          rw [hm]
          clear hsrc hm hown4
          go_wp2_with (at_builtin; refine wpList_append_srcK _ rfl _ _ 39 rfl w2.heap.size 25 ti (.agg #[.int .i64 0, .int .i64 0, .int .i64 0, .int .i64 0, .int .i64 0]) 5 40 Try.underlying39 hti hz0 hz1 hz2 rfl (by decide) _ n (il.flatMap encCube) rfl hrow4 _ m (r.flatMap encCube) rfl HSRC.out (by unfold maxLen; omega) (by omega) (by first | omega | (simp; done) | (simp; omega)) ?_; intro v8 w8 hown' hgrow _)
          have N8 : Below w2.heap.size w2 w8 := Below.grown hbl4 hgrow z4 (fun q hq => (hrow4.lt q hq).1)
          have hrow8 : w8.ownsRow w2.heap.size 25 5 v8 (n + m) ((il ++ r).flatMap encCube) := by simpa using hown'
          obtain ⟨a8, c8, rfl⟩ := row_form hrow8
          have HR8 := Lib.hid hrow8
          clear hown' hgrow hrow8
          go_wp2
          go_roundw
          case rel => exact ⟨k + 1, n + m, _, il ++ r, by omega, by go_num, rfl, HM, by omega, HCU2, HR8.out, ⟨_, _, rfl⟩, N8⟩
          case measure => simp [intOf]; omega
end Go.Proofs.Ytoogofceoinniaa
