/- Votes: the events, by the specification. -/
import Derived.Test.YtoogofceoinniabVoH
namespace Go.Proofs.Ytoogofceoinniab
open Go.ChangeShapes Go.WideShapes Go.ChangeAt Go.RowKit Go.ChangeMaps Go.Sort
set_option linter.unusedSimpArgs false
set_option linter.unusedVariables false
set_option linter.unusedSimpArgs false
set_option linter.unusedVariables false

/-- A list stays where another block grows. -/
theorem LstK.grown {α : Type} {en : α → List Value} {K : Nat} {w w' : World} {B : Nat} {ao : Option Addr} {n cap : Nat} {row : Option Nat} {xs : List α} (h : LstK en K w B (.slice ao n cap) xs) (hB : B ≤ w.heap.size) (hg : w.grownBy w' row) (hne : ∀ b off, ao = some ⟨b, off, none⟩ → 0 < n → some b ≠ row) : LstK en K w' B (.slice ao n cap) xs := by
  obtain ⟨ao', cap', e, h1, h2, h3, h4⟩ := h
  simp only [Value.slice.injEq] at e
  obtain ⟨rfl, rfl, rfl⟩ := e
  refine ⟨_, _, rfl, h1, h2, h3, fun i x hx => ?_⟩
  obtain ⟨b, off, e, hb, hc⟩ := h4 i x hx
  refine ⟨b, off, e, hb, fun j c hj => ?_⟩
  have := hg.block b (by omega) (hne b off e (by have := (List.getElem?_eq_some_iff.1 hx).1; omega))
  have hs : ∀ o, w'.cell? ⟨b, o, none⟩ = w.cell? ⟨b, o, none⟩ := fun o => by unfold World.cell?; simp only [this]
  rw [hs]
  exact hc j c hj
def lenOf : Value → Nat
  | .slice _ n _ => n
  | _ => 0
theorem LstK.grow {α : Type} {en : α → List Value} {K : Nat} {w : World} {B B' : Nat} {v : Value} {xs : List α} (h : LstK en K w B v xs) (hb : B ≤ B') : LstK en K w B' v xs := h.mono hb
/-- An own list's block is none of those that were there before. -/
theorem OwnK.apart {α : Type} {en : α → List Value} {K : Nat} {w : World} {L B n : Nat} {ao : Option Addr} {cap : Nat} {xs : List α} (h : OwnK en K w L B (.slice ao n cap) xs) : ∀ b off, ao = some ⟨b, off, none⟩ → 0 < n → L ≤ b ∧ b < B := fun b off e h0 => by
  obtain ⟨ao', cap', e1, -, -, -, h4⟩ := h
  simp only [Value.slice.injEq] at e1
  obtain ⟨rfl, rfl, rfl⟩ := e1
  obtain ⟨x, hx⟩ := get_of_lt h0
  obtain ⟨b', off', e2, h5, h6, -⟩ := h4 0 x hx
  rw [e] at e2
  simp only [Option.some.injEq, Addr.mk.injEq, and_true] at e2
  omega
theorem LstK.apart {α : Type} {en : α → List Value} {K : Nat} {w : World} {B n : Nat} {ao : Option Addr} {cap : Nat} {xs : List α} (h : LstK en K w B (.slice ao n cap) xs) : ∀ b off, ao = some ⟨b, off, none⟩ → 0 < n → b < B := fun b off e h0 => by
  obtain ⟨ao', cap', e1, -, -, -, h4⟩ := h
  simp only [Value.slice.injEq] at e1
  obtain ⟨rfl, rfl, rfl⟩ := e1
  obtain ⟨x, hx⟩ := get_of_lt h0
  obtain ⟨b', off', e2, h5, -⟩ := h4 0 x hx
  rw [e] at e2
  simp only [Option.some.injEq, Addr.mk.injEq, and_true] at e2
  omega
theorem oneCellO (o : GOrigin) : ∀ u ∈ encOrigin o, u.oneCell' = true := fun u hu => oneOrigin [o] u (by simpa using hu)
set_option maxRecDepth 100000 in
set_option maxHeartbeats 8000000 in
theorem specEf (xs : List GArrival) (v : Value) (step least : Int) (w : World) (B : Nat) (h : ArrivalL w B v xs) (hB : B ≤ w.heap.size) (hn : szsArrival xs ≤ 1048576) (hw : ∀ s ∈ xs, wfArrival s) (_ : I64 step) (_ : I64 least) :
    Calls Try.prog 38 #[v, .int .i64 step, .int .i64 least] w fun e w' => ∃ v', e = .returned (.tuple #[v', .bool (okEf xs step least)]) ∧ OriginO w' w.heap.size w'.heap.size v' (resEf xs step least) ∧ Below w.heap.size w w' := by
  have hl := Nat.le_trans (szsArrival_len xs) hn
  have hrow0 := rowK_empty w (base := w.heap.size) 30 3 (Nat.le_refl _)
  have N0 := (Below.refl w.heap.size w).alloc (Nat.le_refl _) (.cells #[] 30)
  have CI := Lib.hid (fun u W hu => specIn least 1 8 u W hu)
  have CA := Lib.hid (fun u W (q : Below w.heap.size w W) hu => specStepA xs v step u W B (h.below (q.mono hB)) (Nat.le_trans hB q.size) hl hu)
  cases hk : askBg xs step with
  | false =>
    have C1 := Lib.hid (fun W q => CA.out false W q hk)
    have e : okEf xs step least = false := by unfold okEf; rw [hk]; rfl
    rw [e, resEf_no e]
    clear CA e hk
    obtain ⟨ao, cap, rfl⟩ := h.form
    clear h
    go_enter Try.func38, Try.ntmps38
    go_wp2_with fail
    refine (C1.out _ N0).mono ?_
    rintro e w1 ⟨rfl, hb⟩
    have hr1 := row_below hrow0 hb
    go_wp2
    go_ret2
    exact ⟨_, rfl, OwnK.of_row encOrigin_len (by omega) (xs := ([] : List GOrigin)) hr1, N0.trans (hb.mono N0.size)⟩
  | true =>
  have C1 := Lib.hid (fun W q => CA.out true W q hk)
  cases hi : inB least 1 8 with
  | false =>
    have C2 := Lib.hid (fun W => CI.out false W hi)
    have e : okEf xs step least = false := by unfold okEf; rw [hi, Bool.and_false]
    rw [e, resEf_no e]
    clear CA CI e hk hi
    obtain ⟨ao, cap, rfl⟩ := h.form
    clear h
    go_enter Try.func38, Try.ntmps38
    go_wp2_with fail
    refine (C1.out _ N0).mono ?_
    rintro e w1 ⟨rfl, hb⟩
    have hr1 := row_below hrow0 hb
    go_wp2_with fail
    refine (C2.out _).mono ?_
    rintro e w2 ⟨rfl, q2⟩
    subst q2
    go_wp2
    go_ret2
    exact ⟨_, rfl, OwnK.of_row encOrigin_len (by omega) (xs := ([] : List GOrigin)) hr1, N0.trans (hb.mono N0.size)⟩
  | true =>
  have C2 := Lib.hid (fun W => CI.out true W hi)
  have e : okEf xs step least = true := by unfold okEf; rw [hk, hi]; rfl
  obtain ⟨hok, hs, hle⟩ := okEf_yes e
  obtain ⟨K, hK, hE⟩ := endV_ex hok hs hle.1
  rw [e, resEf_yes e hE]
  have HE := Lib.hid hE
  have HOK := Lib.hid hok
  have HS := Lib.hid hs
  have HLE := Lib.hid hle
  have hl8 := hok.2
  have CB := Lib.hid (fun W k (b : Value) (hb : ArrivalL W W.heap.size b (leftV xs step k)) p hp => specBest (leftV xs step k) b step p W W.heap.size hb (Nat.le_refl _) (leftV_ok hok step k) hs hp)
  have CR := Lib.hid (fun W k (b : Value) (hb : ArrivalL W W.heap.size b (leftV xs step k)) o ho => specRest (leftV xs step k) b o W W.heap.size hb (Nat.le_refl _) (leftV_ok hok step k) ho)
  have HL0 := Lib.hid (h.below (N0.mono hB))
  obtain ⟨ao, cap, rfl⟩ := h.form
  have hne0 := h.apart
  obtain ⟨ti, hti, hz0, hz1, hz2⟩ := info_parts info_Origin
  clear CA CI e hk hi hE hok hs hle h
  go_enter Try.func38, Try.ntmps38
  go_wp2_with fail
  refine (C1.out _ N0).mono ?_
  rintro e w1 ⟨rfl, hb⟩
  have hr1 := row_below hrow0 hb
  have N1 := N0.trans (hb.mono N0.size)
  have HL1 := Lib.hid (HL0.out.below (hb.mono (Nat.le_trans hB N0.size)))
  clear hb hrow0 N0 HL0
  go_wp2_with fail
  refine (C2.out _).mono ?_
  rintro e w2 ⟨rfl, q2⟩
  subst q2
  have hf1 := row_form hr1
  have hg1 : ∀ b, Value.ownBlock (.slice (some ⟨w.heap.size, 0, none⟩) 0 0) = some b → w.heap.size ≤ b ∧ b < w1.heap.size := fun b hb => hr1.lt b hb
  go_wp2
  go_loopw [8, 9] (fun ov rv wr => ∃ (k rn : Nat) (ra : Option Addr) (rc : Nat), k ≤ K ∧ rv = .slice ra rn rc ∧ (∃ ao cap, ov = .slice ao k cap) ∧ wr.ownsRow w.heap.size 30 3 ov k ((evsV xs step k).flatMap encOrigin) ∧ ArrivalL wr wr.heap.size (.slice ra rn rc) (leftV xs step k) ∧ (∀ b off, ra = some ⟨b, off, none⟩ → 0 < rn → some b ≠ ov.ownBlock) ∧ Below w.heap.size w wr)
    (fun ov _ _ => K + 1 - lenOf ov)
  case atStart => exact ⟨0, xs.length, ao, cap, Nat.zero_le _, rfl, ⟨_, _, rfl⟩, hr1, HL1.out.mono (Nat.le_trans hB N1.size), fun b off e h0 => fun e2 => by have h9 := Option.some.inj e2; have := hne0 b off e h0; simp only at h9; omega, N1⟩
  case round =>
    obtain ⟨k, rn, ra, rc, hk, rfl, ⟨oa, oc, rfl⟩, hrow, hlst, hne, hbl⟩ := hrel
    clear hr1 HL1 N1 hf1 hg1
    have hsz := hbl.size
    obtain ⟨⟨⟨ox, oy, ot⟩, n⟩, hp⟩ : ∃ p, bestV (leftV xs step k) step = p := ⟨_, rfl⟩
    have HF := bestV_fine (leftV_ok HOK.out step k) HS.out
    rw [hp] at HF
    obtain ⟨hoo, ⟨hn0, hn1⟩, -⟩ := HF
    have hn0' : 0 ≤ n := hn0
    have hn1' : n ≤ 8 := hn1
    have CB1 := Lib.hid (CB.out wr k _ hlst _ hp)
    have HP := Lib.hid hp
    have HOO := Lib.hid hoo
    have HLST := Lib.hid hlst
    obtain ⟨hle0, hle1⟩ := HLE.out
    clear hp hn0 hn1 hoo hlst
    go_wp2_with fail
    refine CB1.out.mono ?_
    rintro e w2 ⟨rfl, hb⟩
    have N2 := hbl.trans (hb.mono hsz)
    have hr2 := row_below hrow hb
    have L2 := Lib.hid ((HLST.out.below hb).mono hb.size)
    clear hrow hbl HLST CB1 hb
    obtain ⟨W3, hW3⟩ : ∃ W3, w2.alloc (.cells #[.int .i64 ox, .int .i64 oy, .int .i64 ot] 30) = W3 := ⟨_, rfl⟩
    have A3 : Below w2.heap.size w2 W3 := hW3 ▸ (Below.refl _ _).alloc (Nat.le_refl _) _
    have N3 : Below w.heap.size w W3 := N2.trans (A3.mono N2.size)
    have bB : Bx W3 w2.heap.size [.int .i64 ox, .int .i64 oy, .int .i64 ot] := hW3 ▸ Bx.new w2 [.int .i64 ox, .int .i64 oy, .int .i64 ot] 30
    have hr3 := row_below hr2 A3
    have L3 := Lib.hid ((L2.out.below A3).mono A3.size)
    have z3 := N3.size
    have z23 := A3.size
    have hlt3 : ∀ b, Value.ownBlock (.slice oa k oc) = some b → b < w2.heap.size := fun b hb => (hr2.lt b hb).2
    clear hr2 L2 A3 N2
    by_cases hq : n < least
    case pos =>
      have hkK : k = K := endV_one ⟨by rw [HP.out]; exact hq, fun j hj => HE.out.2 j (by omega)⟩ HE.out
      obtain rfl := hkK
      have b0 := bB.2 0 _ rfl
      have b1 := bB.2 1 _ rfl
      have b2 := bB.2 2 _ rfl
      have bf := bB.1.2
      go_wp2
      go_ret2
      exact ⟨_, rfl, OwnK.of_row encOrigin_len (by omega) hr3, N3⟩
    case neg =>
      have hkK : k < K := by
        rcases Nat.lt_or_ge k K with q | q
        · exact q
        · have hkk : k = K := by omega
          have := HE.out.1
          rw [← hkk, HP.out] at this
          exact absurd this hq
      have HEV : Hid (evsV xs step k ++ [⟨ox, oy, ot⟩] = evsV xs step (k + 1)) := Lib.hid (by rw [evsV_succ, HP.out])
      have HLF : Hid (leftV xs step (k + 1) = restV (leftV xs step k) ⟨ox, oy, ot⟩) := Lib.hid (by show restV _ _ = _; rw [HP.out])
      have b0 := bB.2 0 _ rfl
      have b1 := bB.2 1 _ rfl
      have b2 := bB.2 2 _ rfl
      have bf := bB.1.2
      have HSRC := Lib.hid (srcK_box (Bx.new W3 (encOrigin ⟨ox, oy, ot⟩) 30) (oneCellO ⟨ox, oy, ot⟩))
      have HL4 := Lib.hid (L3.out.below ((Below.refl _ _).alloc (Nat.le_refl _) (.cells (encOrigin ⟨ox, oy, ot⟩).toArray 30)))
      have bB4 := bB.alloc (.cells (encOrigin ⟨ox, oy, ot⟩).toArray 30)
      have hlen : (evsV xs step k).length = k := evsV_len xs step k
      generalize evsV xs step k = es at *
      have HLEN := Lib.hid hlen
      clear hlen
      have hneB : some w2.heap.size ≠ Value.ownBlock (.slice oa k oc) := fun e => by have := hlt3 _ e.symm; omega
      go_wp2_with (
        at_builtin
        refine wpList_append_srcK _ rfl _ _ 58 rfl w.heap.size 30 ti (.agg #[.int .i64 0, .int .i64 0, .int .i64 0]) 3 24 Try.underlying58 hti hz0 hz1 hz2 rfl (by decide) _ k (es.flatMap encOrigin) rfl (hr3.alloc _) _ 1 (encOrigin ⟨ox, oy, ot⟩) rfl HSRC.out (by unfold maxLen; omega) (by omega) (by first | omega | (simp; done) | (simp; omega)) ?_
        intro v5 w5 hown5 hgrow5 hat5
        have bB5 := bB4.grown hgrow5 hneB
        have b05 := bB5.2 0 _ rfl
        have b15 := bB5.2 1 _ rfl
        have b25 := bB5.2 2 _ rfl)
      have hrow5 : w5.ownsRow w.heap.size 30 3 v5 (k + 1) ((evsV xs step (k + 1)).flatMap encOrigin) := by
        rw [← HEV.out, List.flatMap_append, List.flatMap_singleton]
        exact hown5
      have hg5 : (W3.alloc (.cells #[.int .i64 ox, .int .i64 oy, .int .i64 ot] 30)).grownBy w5 (Value.ownBlock (.slice oa k oc)) := hgrow5
      have hat5' : v5.ownBlock = Value.ownBlock (.slice oa k oc) ∨ v5.ownBlock = some (W3.heap.size + 1) := by
        rcases hat5 with e | e
        · exact Or.inl e
        · exact Or.inr (by rw [e]; simp)
      have A4 : Below w.heap.size w (W3.alloc (.cells #[.int .i64 ox, .int .i64 oy, .int .i64 ot] 30)) := N3.alloc N3.size _
      have z4 : (W3.alloc (.cells #[.int .i64 ox, .int .i64 oy, .int .i64 ot] 30)).heap.size = W3.heap.size + 1 := by simp
      have N5 : Below w.heap.size w w5 := A4.grown hg5 (by omega) (fun q hq => (hr3.lt q hq).1)
      have L5 : ArrivalL w5 W3.heap.size (.slice ra rn rc) (leftV xs step k) := by
        have q4 := hg5.size
        exact HL4.out.grown (by simp) hg5 hne
      have z5 := hg5.size
      have zz5 : W3.heap.size + 1 ≤ w5.heap.size := by rw [← z4]; exact z5
      have CR5 := Lib.hid (CR.out w5 k _ (L5.mono (by omega)) ⟨ox, oy, ot⟩ HOO.out)
      obtain ⟨a5, c5, rfl⟩ := row_form hrow5
      have hlt5 : ∀ b, Value.ownBlock (.slice a5 (k + 1) c5) = some b → b < w5.heap.size := fun b hb => (hrow5.lt b hb).2
      clear hown5 hgrow5 hat5 hg5 bB5 b05 b15 b25 bB4 hneB HL4 HSRC b0 b1 b2 bf bB hr3 L3 L5 hne
      refine CR5.out.mono ?_
      rintro e w6 ⟨v6, rfl, hown6, hb6⟩
      have N6 := N5.trans (hb6.mono N5.size)
      have hr6 := row_below hrow5 hb6
      obtain ⟨a6, c6, rfl⟩ := hown6.form
      have hap := hown6.apart
      go_wp2
      go_roundw
      case rel =>
        refine ⟨k + 1, _, _, _, by omega, rfl, ⟨_, _, rfl⟩, hr6, ?_, fun b off e h0 => ?_, N6⟩
        · rw [HLF.out]; exact hown6.lst.mono (Nat.le_refl _)
        · intro e2
          have := hap b off e h0
          have := hlt5 b e2.symm
          omega
      case measure => simp [lenOf]; omega
end Go.Proofs.Ytoogofceoinniab
