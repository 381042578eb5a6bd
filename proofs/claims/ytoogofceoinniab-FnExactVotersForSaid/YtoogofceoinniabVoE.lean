/- Votes: the specification's lists: who votes, and who is left. -/
import Derived.Test.YtoogofceoinniabVoC
import Derived.Test.YtoogofceoinniabIns
import Derived.Test.YtoogofceoinniabAcc
import Derived.Test.YtoogofceoinniabQTail
namespace Go.Proofs.Ytoogofceoinniab
open Go.ChangeShapes Go.WideShapes Go.ChangeAt Go.RowKit Go.ChangeMaps Go.Sort
set_option linter.unusedSimpArgs false
set_option linter.unusedVariables false
set_option linter.unusedSimpArgs false
set_option linter.unusedVariables false

set_option maxRecDepth 100000 in
set_option maxHeartbeats 4000000 in
theorem specVoters (xs : List GArrival) (v : Value) (o : GOrigin) (w : World) (B : Nat) (h : ArrivalL w B v xs) (hB : B ≤ w.heap.size) (hok : okArs xs) (ho : okOr o) :
    Calls Try.prog 64 #[v, aggO o] w fun e w' => ∃ v', e = .returned v' ∧ Own (Value.int .i64) w' w.heap.size w'.heap.size v' (votV xs o) ∧ Below w.heap.size w w' := by
  obtain ⟨W0, hW0⟩ : ∃ W0, w.alloc (.cells #[.int .i64 o.pX, .int .i64 o.pY, .int .i64 o.pTick] 30) = W0 := ⟨_, rfl⟩
  have N0 : Below w.heap.size w W0 := hW0 ▸ (Below.refl w.heap.size w).alloc (Nat.le_refl _) _
  have bO : Bx W0 w.heap.size [.int .i64 o.pX, .int .i64 o.pY, .int .i64 o.pTick] := hW0 ▸ Bx.new w [.int .i64 o.pX, .int .i64 o.pY, .int .i64 o.pTick] 30
  have hrow0 := row_empty W0 (base := W0.heap.size) 3 1 (Nat.le_refl _)
  have B0 := (Below.refl W0.heap.size W0).alloc (Nat.le_refl _) (.cells #[] 3)
  have z0 := N0.size
  have HOK := Lib.hid hok
  have HO := Lib.hid ho
  have hl8 := hok.2
  obtain ⟨ti, hi, hz0, hz1, hz2⟩ := info_parts infoInt
  obtain ⟨ao, cap, rfl, hcap, hmax, -, hc⟩ := h.below (N0.mono hB)
  unfold maxLen at hmax
  have HC := Lib.hid hc
  clear hc hok ho h
  go_enter Try.func64, Try.ntmps64
  go_wp2
  go_loopw [5, 6] (fun q i wr => ∃ (k n : Nat) (v : Value) (il : List Int), k ≤ xs.length ∧ i = .int .i64 k ∧ q = v ∧ n ≤ k ∧ Hid (il = votV (xs.take k) o) ∧ wr.ownsRow W0.heap.size 3 1 v n (il.map (Value.int .i64)) ∧ (∃ ao cap, v = .slice ao n cap) ∧ Below W0.heap.size W0 wr)
    (fun _ i _ => xs.length - (intOf i).toNat)
  case atStart => exact ⟨0, 0, _, [], Nat.zero_le _, rfl, rfl, Nat.le_refl _, Lib.hid rfl, hrow0, ⟨_, _, rfl⟩, B0⟩
  case round =>
    obtain ⟨k, n, _, il, hk, rfl, rfl, hnk, HIL, hrow, ⟨oa, oc, rfl⟩, hbl⟩ := hrel
    have hsz := hbl.size
    by_cases hlt : k < xs.length
    case neg =>
      obtain rfl : k = xs.length := by omega
      have HE : Hid (il = votV xs o) := Lib.hid (by rw [HIL.out, List.take_length])
      go_wp2
      go_ret
      refine ⟨_, rfl, ?_, N0.trans (hbl.mono z0)⟩
      rw [← HE.out]
      exact (Own.of_row hrow).mono z0 (Nat.le_refl _)
    have hk0 : (0 : Int) ≤ (k : Int) := by omega
    have hk1 : (k : Int) < (xs.length : Int) := by omega
    obtain ⟨a, ha⟩ := get_of_lt hlt
    have hoka := okArs_mem HOK.out (List.mem_of_getElem? ha)
    obtain ⟨b, off, rfl, hb, hcell⟩ := HC.out k a ha
    have c0 : wr.cell? ⟨b, off + k * 5, none⟩ = some (.int .i64 a.pId) := cellOf hbl (by omega) (hcell 0 _ rfl)
    have c1 : wr.cell? ⟨b, off + k * 5 + 1, none⟩ = some (.int .i64 a.pX) := cellOf hbl (by omega) (hcell 1 _ rfl)
    have c2 : wr.cell? ⟨b, off + k * 5 + 2, none⟩ = some (.int .i64 a.pY) := cellOf hbl (by omega) (hcell 2 _ rfl)
    have c3 : wr.cell? ⟨b, off + k * 5 + 3, none⟩ = some (.int .i64 a.pTick) := cellOf hbl (by omega) (hcell 3 _ rfl)
    have c4 : wr.cell? ⟨b, off + k * 5 + 4, none⟩ = some (.int .i64 a.pError) := cellOf hbl (by omega) (hcell 4 _ rfl)
    have bO1 := bO.below hbl
    have o0 := bO1.2 0 _ rfl
    have o1 := bO1.2 1 _ rfl
    have o2 := bO1.2 2 _ rfl
    have CF := Lib.hid (fun W => specFit a o _ W hoka HO.out rfl)
    have HT := Lib.hid (votV_take ha o)
    clear ha hcell hoka bO1
    cases hf : fitV a o with
    | false =>
      rw [hf] at CF HT
      have HIL2 : Hid (il = votV (xs.take (k + 1)) o) := Lib.hid (by rw [HT.out, HIL.out]; rfl)
      clear hf HT HIL
      have cs := fun d os => Calls.regrown_of (w := wr) (d := d) (os := os) (CF.out _)
      have rd0 := cell_regrown c0
      have rd1 := cell_regrown c1
      have rd2 := cell_regrown c2
      have rd3 := cell_regrown c3
      have rd4 := cell_regrown c4
      have ro0 := cell_regrown o0
      have ro1 := cell_regrown o1
      have ro2 := cell_regrown o2
      go_wp2_with fail
      refine wp_region_quiet_below (by kernel_rfl) (by kernel_rfl) ?_
      repeat (go_big_quiet_step (first | with_reducible exact cs _ _))
      refine wpQuiet_nil ?_
      intro _ hw'
      obtain ⟨⟨dq, osq⟩, hw''⟩ := hw'
      subst hw''
      have hb1 := below_regrown (wr) dq osq
      generalize grow (redrawn (wr) dq) osq = w1 at *
      clear cs rd0 rd1 rd2 rd3 rd4 ro0 ro1 ro2
      have hr1 := row_below hrow hb1
      clear hrow c0 c1 c2 c3 c4 o0 o1 o2
      go_wp2
      go_roundw
      case rel => exact ⟨k + 1, n, _, il, by omega, by go_num, rfl, by omega, HIL2, hr1, ⟨_, _, rfl⟩, hbl.trans (hb1.mono hsz)⟩
      case measure => simp [intOf]; omega
    | true =>
      rw [hf] at CF HT
      have HIL2 : Hid (il ++ [a.pId] = votV (xs.take (k + 1)) o) := Lib.hid (by rw [HT.out, HIL.out]; rfl)
      clear hf HT HIL
      have cs := fun d os => Calls.regrown_of (w := wr) (d := d) (os := os) (CF.out _)
      have rd0 := cell_regrown c0
      have rd1 := cell_regrown c1
      have rd2 := cell_regrown c2
      have rd3 := cell_regrown c3
      have rd4 := cell_regrown c4
      have ro0 := cell_regrown o0
      have ro1 := cell_regrown o1
      have ro2 := cell_regrown o2
      go_wp2_with fail
      refine wp_region_quiet_below (by kernel_rfl) (by kernel_rfl) ?_
      repeat (go_big_quiet_step (first | with_reducible exact cs _ _))
      refine wpQuiet_nil ?_
      intro _ hw'
      obtain ⟨⟨dq, osq⟩, hw''⟩ := hw'
      subst hw''
      have hb1 := below_regrown (wr) dq osq
      generalize grow (redrawn (wr) dq) osq = w1 at *
      clear cs rd0 rd1 rd2 rd3 rd4 ro0 ro1 ro2
      have hr1 := row_below hrow hb1
      have N1 := hbl.trans (hb1.mono hsz)
      have hsz1 := N1.size
      have d0 := cellOf hb1 (by omega) c0
      clear hrow c0 c1 c2 c3 c4 o0 o1 o2 hb1
      go_wp2_with (at_builtin; refine wpList_append_own _ rfl _ _ 41 rfl (W0.heap.size) 3 ti (.int .i64 0) 1 8 Try.underlying41 hi hz0 hz1 hz2 rfl (by decide) _ n (il.map (Value.int .i64)) rfl (hr1.alloc _) ⟨w1.heap.size, 0, none⟩ 1 1 [.int .i64 a.pId] rfl rfl (cell_one_new _ _ _) (by simp [Value.oneCell']) (by unfold maxLen; omega) (by omega) (by first | omega | (simp; done) | (simp; omega)) ?_; intro v3 w3 hown' hgrow _; have b3 := below_app2 hr1 hgrow hsz1 (Nat.le_refl _))
      have hrow3 : w3.ownsRow W0.heap.size 3 1 v3 (n + 1) ((il ++ [a.pId]).map (Value.int .i64)) := by simpa using hown'
      obtain ⟨a3, c3, rfl⟩ := row_form hrow3
      clear hgrow hr1 hown'
      go_wp2
      go_roundw
      case rel => exact ⟨k + 1, n + 1, _, _, by omega, by go_num, rfl, by omega, HIL2, hrow3, ⟨_, _, rfl⟩, N1.trans b3⟩
      case measure => simp [intOf]; omega
theorem keep_noA {xs : List GArrival} {k : Nat} {a : GArrival} {o : GOrigin} (h : xs[k]? = some a) (hf : fitV a o = true) : restV (xs.take (k + 1)) o = restV (xs.take k) o := by rw [restV_take h, hf]; rfl
theorem keep_yesA {xs : List GArrival} {k : Nat} {a : GArrival} {o : GOrigin} (h : xs[k]? = some a) (hf : fitV a o = false) : restV (xs.take (k + 1)) o = restV (xs.take k) o ++ [a] := by rw [restV_take h, hf]; rfl
theorem oneCellA (a : GArrival) : ∀ u ∈ encArrival a, u.oneCell' = true := fun u hu => oneArrival [a] u (by simpa using hu)
set_option maxRecDepth 100000 in
set_option maxHeartbeats 4000000 in
theorem specRest (xs : List GArrival) (v : Value) (o : GOrigin) (w : World) (B : Nat) (h : ArrivalL w B v xs) (hB : B ≤ w.heap.size) (hok : okArs xs) (ho : okOr o) :
    Calls Try.prog 78 #[v, aggO o] w fun e w' => ∃ v', e = .returned v' ∧ ArrivalO w' w.heap.size w'.heap.size v' (restV xs o) ∧ Below w.heap.size w w' := by
  obtain ⟨W0, hW0⟩ : ∃ W0, w.alloc (.cells #[.int .i64 o.pX, .int .i64 o.pY, .int .i64 o.pTick] 30) = W0 := ⟨_, rfl⟩
  have N0 : Below w.heap.size w W0 := hW0 ▸ (Below.refl w.heap.size w).alloc (Nat.le_refl _) _
  have bO : Bx W0 w.heap.size [.int .i64 o.pX, .int .i64 o.pY, .int .i64 o.pTick] := hW0 ▸ Bx.new w [.int .i64 o.pX, .int .i64 o.pY, .int .i64 o.pTick] 30
  have hrow0 := rowK_empty W0 (base := W0.heap.size) 28 5 (Nat.le_refl _)
  have B0 := (Below.refl W0.heap.size W0).alloc (Nat.le_refl _) (.cells #[] 28)
  have z0 := N0.size
  have HOK := Lib.hid hok
  have HO := Lib.hid ho
  have hl8 := hok.2
  obtain ⟨ti, hi, hz0, hz1, hz2⟩ := info_parts info_Arrival
  obtain ⟨ao, cap, rfl, hcap, hmax, -, hc⟩ := h.below (N0.mono hB)
  unfold maxLen at hmax
  have HC := Lib.hid hc
  clear hc hok ho h
  go_enter Try.func78, Try.ntmps78
  go_wp2
  go_loopw [5, 6] (fun q i wr => ∃ (k n : Nat) (v : Value) (il : List GArrival), k ≤ xs.length ∧ i = .int .i64 k ∧ q = v ∧ n ≤ k ∧ Hid (il = restV (xs.take k) o) ∧ wr.ownsRow W0.heap.size 28 5 v n (il.flatMap encArrival) ∧ (∃ ao cap, v = .slice ao n cap) ∧ Below W0.heap.size W0 wr)
    (fun _ i _ => xs.length - (intOf i).toNat)
  case atStart => exact ⟨0, 0, _, [], Nat.zero_le _, rfl, rfl, Nat.le_refl _, Lib.hid rfl, hrow0, ⟨_, _, rfl⟩, B0⟩
  case round =>
    obtain ⟨k, n, _, il, hk, rfl, rfl, hnk, HIL, hrow, ⟨oa, oc, rfl⟩, hbl⟩ := hrel
    have hsz := hbl.size
    by_cases hlt : k < xs.length
    case neg =>
      obtain rfl : k = xs.length := by omega
      have HE : Hid (il = restV xs o) := Lib.hid (by rw [HIL.out, List.take_length])
      go_wp2
      go_ret
      refine ⟨_, rfl, ?_, N0.trans (hbl.mono z0)⟩
      rw [← HE.out]
      exact (OwnK.of_row encArrival_len (by omega) hrow).mono z0 (Nat.le_refl _)
    have hk0 : (0 : Int) ≤ (k : Int) := by omega
    have hk1 : (k : Int) < (xs.length : Int) := by omega
    obtain ⟨a, ha⟩ := get_of_lt hlt
    have hoka := okArs_mem HOK.out (List.mem_of_getElem? ha)
    obtain ⟨b, off, rfl, hb, hcell⟩ := HC.out k a ha
    have c0 : wr.cell? ⟨b, off + k * 5, none⟩ = some (.int .i64 a.pId) := cellOf hbl (by omega) (hcell 0 _ rfl)
    have c1 : wr.cell? ⟨b, off + k * 5 + 1, none⟩ = some (.int .i64 a.pX) := cellOf hbl (by omega) (hcell 1 _ rfl)
    have c2 : wr.cell? ⟨b, off + k * 5 + 2, none⟩ = some (.int .i64 a.pY) := cellOf hbl (by omega) (hcell 2 _ rfl)
    have c3 : wr.cell? ⟨b, off + k * 5 + 3, none⟩ = some (.int .i64 a.pTick) := cellOf hbl (by omega) (hcell 3 _ rfl)
    have c4 : wr.cell? ⟨b, off + k * 5 + 4, none⟩ = some (.int .i64 a.pError) := cellOf hbl (by omega) (hcell 4 _ rfl)
    have bO1 := bO.below hbl
    have o0 := bO1.2 0 _ rfl
    have o1 := bO1.2 1 _ rfl
    have o2 := bO1.2 2 _ rfl
    have CF := Lib.hid (fun W => specFit a o _ W hoka HO.out rfl)
    have HT := Lib.hid (fun h => keep_noA (o := o) ha h)
    have HU := Lib.hid (fun h => keep_yesA (o := o) ha h)
    clear ha hcell hoka bO1
    have rd0 := cell_regrown c0
    have rd1 := cell_regrown c1
    have rd2 := cell_regrown c2
    have rd3 := cell_regrown c3
    have rd4 := cell_regrown c4
    have ro0 := cell_regrown o0
    have ro1 := cell_regrown o1
    have ro2 := cell_regrown o2
    cases hf : fitV a o with
    | true =>
      rw [hf] at CF
      have HIL2 : Hid (il = restV (xs.take (k + 1)) o) := Lib.hid (by rw [HT.out hf, HIL.out])
      clear hf HT HU HIL
      have cs := fun d os => Calls.regrown_of (w := wr) (d := d) (os := os) (CF.out _)
      go_wp2_with fail
      refine wp_region_quiet_below (by kernel_rfl) (by kernel_rfl) ?_
      repeat (go_big_quiet_step (first | with_reducible exact cs _ _))
      refine wpQuiet_nil ?_
      intro _ hw'
      obtain ⟨⟨dq, osq⟩, hw''⟩ := hw'
      subst hw''
      have hb1 := below_regrown (wr) dq osq
      generalize grow (redrawn (wr) dq) osq = w1 at *
      clear cs rd0 rd1 rd2 rd3 rd4 ro0 ro1 ro2
      have hr1 := row_below hrow hb1
      clear hrow c0 c1 c2 c3 c4 o0 o1 o2
      go_wp2
      go_roundw
      case rel => exact ⟨k + 1, n, _, il, by omega, by go_num, rfl, by omega, HIL2, hr1, ⟨_, _, rfl⟩, hbl.trans (hb1.mono hsz)⟩
      case measure => simp [intOf]; omega
    | false =>
      rw [hf] at CF
      have HIL2 : Hid (il ++ [a] = restV (xs.take (k + 1)) o) := Lib.hid (by rw [HU.out hf, HIL.out])
      clear hf HT HU HIL
      have cs := fun d os => Calls.regrown_of (w := wr) (d := d) (os := os) (CF.out _)
      go_wp2_with fail
      refine wp_region_quiet_below (by kernel_rfl) (by kernel_rfl) ?_
      repeat (go_big_quiet_step (first | with_reducible exact cs _ _))
      refine wpQuiet_nil ?_
      intro _ hw'
      obtain ⟨⟨dq, osq⟩, hw''⟩ := hw'
      subst hw''
      have hb1 := below_regrown (wr) dq osq
      generalize grow (redrawn (wr) dq) osq = w1 at *
      clear cs rd0 rd1 rd2 rd3 rd4 ro0 ro1 ro2
      have hr1 := row_below hrow hb1
      have N1 := hbl.trans (hb1.mono hsz)
      have hsz1 := N1.size
      have d0 := cellOf hb1 (by omega) c0
      have d1 := cellOf hb1 (by omega) c1
      have d2 := cellOf hb1 (by omega) c2
      have d3 := cellOf hb1 (by omega) c3
      have d4 := cellOf hb1 (by omega) c4
      have HSRC := Lib.hid (srcK_box (Bx.new w1 (encArrival a) 28) (oneCellA a))
      clear hrow c0 c1 c2 c3 c4 o0 o1 o2 hb1
      go_wp2_with (at_builtin; refine wpList_append_srcK _ rfl _ _ 37 rfl W0.heap.size 28 ti (.agg #[.int .i64 0, .int .i64 0, .int .i64 0, .int .i64 0, .int .i64 0]) 5 40 Try.underlying37 hi hz0 hz1 hz2 rfl (by decide) _ n (il.flatMap encArrival) rfl (hr1.alloc _) _ 1 (encArrival a) rfl HSRC.out (by unfold maxLen; omega) (by omega) (by first | omega | (simp; done) | (simp; omega)) ?_; intro v3 w3 hown' hgrow _; have b3 := below_app2 hr1 hgrow hsz1 (Nat.le_refl _))
      have hrow3 : w3.ownsRow W0.heap.size 28 5 v3 (n + 1) ((il ++ [a]).flatMap encArrival) := by simpa using hown'
      obtain ⟨a3, c3, rfl⟩ := row_form hrow3
      clear hgrow hr1 hown'
      go_wp2
      go_roundw
      case rel => exact ⟨k + 1, n + 1, _, _, by omega, by go_num, rfl, by omega, HIL2, hrow3, ⟨_, _, rfl⟩, N1.trans b3⟩
      case measure => simp [intOf]; omega
end Go.Proofs.Ytoogofceoinniab
