/- Packing: samples read from bytes, both programs; TornAt and ReadableSamples. -/
import Derived.Test.YtkgohnlljbamlaaPkR
import Derived.Test.YtkgohnlljbamlaaPkN
namespace Go.Proofs.Ytkgohnlljbamlaa
open Go.ChangeShapes Go.WideShapes Go.ChangeAt Go.RowKit Go.ChangeMaps
set_option linter.unusedSimpArgs false
set_option linter.unusedVariables false

/-- The first k bytes gave the differences xs. -/
def RdS (l xs : List Int) (k : Nat) : Prop := k ≤ l.length ∧ k + tn (l.drop k) = tn l ∧ xs ++ (rd (l.drop k)).map unfoldI = rdD l ∧ xs.length ≤ k
theorem RdS.zero (l : List Int) : RdS l [] 0 := ⟨by omega, by simp, by simp [rdD], by simp⟩
theorem RdS.step {l xs : List Int} {k : Nat} {b : Int} (h : RdS l xs k) (hb : l[k]? = some b) (hf : k + lead b ≤ l.length) : RdS l (xs ++ [unfoldI (num ((l.drop k).take (lead b)))]) (k + lead b) := by
  obtain ⟨h1, h2, h3, h4⟩ := h
  obtain ⟨e1, e2⟩ := at_yes hb hf
  have := lead_pos b
  rw [e1] at h2
  rw [e2] at h3
  exact ⟨hf, by omega, by rw [← h3]; simp, by simp; omega⟩
theorem RdS.stop {l xs : List Int} {k : Nat} (h : RdS l xs k) (hs : k < l.length → ∀ b, l[k]? = some b → ¬ k + lead b ≤ l.length) : k = tn l ∧ xs = rdD l := by
  obtain ⟨h1, h2, h3, h4⟩ := h
  by_cases hlt : k < l.length
  · obtain ⟨b, hb⟩ := get_of_lt hlt
    obtain ⟨e1, e2⟩ := at_no hb (hs hlt b hb)
    rw [e1] at h2
    rw [e2] at h3
    exact ⟨by omega, by simpa using h3⟩
  · obtain ⟨e1, e2⟩ := tn_full (l := l) (k := k) (by omega)
    rw [e1] at h2
    rw [e2] at h3
    exact ⟨by omega, by simpa using h3⟩
theorem RdS.fits {l xs : List Int} {k : Nat} {b : Int} (h : RdS l xs k) (hb : l[k]? = some b) (hlt : k < tn l) : k + lead b ≤ l.length := by
  by_cases hf : k + lead b ≤ l.length
  · exact hf
  · have := (at_no hb hf).1
    have := h.2.1
    omega
theorem num_bd {l : List Int} {k : Nat} {b : Int} (hx : ∀ x ∈ l, 0 ≤ x ∧ x ≤ 255) (hb : l[k]? = some b) (hf : k + lead b ≤ l.length) : 0 ≤ num ((l.drop k).take (lead b)) ∧ num ((l.drop k).take (lead b)) ≤ 2105535 := by
  have h := (tn_rd _ (l.drop k) (Nat.le_refl _) (fun x hx' => hx x (List.mem_of_mem_drop hx'))).2.2
  rw [(at_yes hb hf).2] at h
  exact h _ (by simp)
theorem rdD_len (l : List Int) : (rdD l).length ≤ l.length := by
  unfold rdD
  rw [List.length_map]
  exact rd_len _ l (Nat.le_refl _)

set_option maxRecDepth 100000 in
set_option maxHeartbeats 1000000 in
theorem specRd (l : List Int) (v : Value) (w : World) (B : Nat) (h : Lst (Value.int .i64) w B v l) (hB : B ≤ w.heap.size) (hk : okB l = true) :
    Calls Try.prog 65 #[v] w fun e w' => ∃ v', e = .returned (.tuple #[v', .int .i64 (tn l)]) ∧ Own (Value.int .i64) w' w.heap.size w'.heap.size v' (rdD l) ∧ Below w.heap.size w w' := by
  obtain ⟨ti, hi, hz0, hz1, hz2⟩ := info_parts infoInt
  obtain ⟨gx, gn⟩ := okB_yes hk
  have GX := Lib.hid gx
  have HL := Lib.hid h
  have hrow0 := row_empty w (base := w.heap.size) 3 1 (Nat.le_refl _)
  have hb0 : Below w.heap.size w (w.alloc (.cells #[] 3)) := (Below.refl _ _).alloc (Nat.le_refl _) _
  obtain ⟨ao, cap, rfl⟩ := h.form
  clear hk gx h
  go_enter Try.func65, Try.ntmps65
  go_wp2
  go_loopw [4, 5] (fun o i wr => ∃ (k : Nat) (xs : List Int), i = .int .i64 k ∧ RdS l xs k ∧ wr.ownsRow w.heap.size 3 1 o xs.length (xs.map (Value.int .i64)) ∧ Below w.heap.size w wr)
    (fun _ i _ => l.length - (intOf i).toNat)
  case atStart => exact ⟨0, [], rfl, RdS.zero l, by simpa using hrow0, hb0⟩
  case round =>
    obtain ⟨k, xs, rfl, hR, hrow, hbl⟩ := hrel
    obtain ⟨aoo, capo, rfl⟩ := row_form hrow
    have hsz := hbl.size
    have HR := Lib.hid hR
    have hkl := hR.1
    have hxl := hR.2.2.2
    clear hR
    by_cases hlt : k < l.length
    case neg =>
      obtain ⟨q1, q2⟩ := HR.out.stop (fun g => absurd g hlt)
      have Q1 := Lib.hid q1
      have Q2 := Lib.hid q2
      clear q1 q2
      go_wp2
      go_ret2
      exact ⟨_, by rw [← Q1.out]; rfl, by rw [← Q2.out]; exact Own.of_row hrow, hbl⟩
    obtain ⟨b, hb⟩ := get_of_lt hlt
    have HB := Lib.hid hb
    have D := Lib.hid (specNx l _ k b wr B (HL.out.below (hbl.mono hB)) hb GX.out gn)
    have hlp := lead_pos b
    by_cases hf : k + lead b ≤ l.length
    case neg =>
      have e1 : nxN l k b = 0 := if_neg hf
      have e2 : nxK l k b = -1 := if_neg hf
      rw [e1, e2] at D
      obtain ⟨q1, q2⟩ := HR.out.stop (fun g c hc => by rw [HB.out] at hc; cases hc; exact hf)
      have Q1 := Lib.hid q1
      have Q2 := Lib.hid q2
      clear q1 q2 e1 e2 hb
      go_wp2_with fail
      refine D.out.mono ?_
      rintro e w2 ⟨rfl, m, rfl⟩
      go_wp2
      go_ret2
      exact ⟨_, by rw [← Q1.out]; rfl, by rw [← Q2.out]; exact Own.of_row (row_drewN hrow m), drewN_b hbl m⟩
    have e1 : nxN l k b = num ((l.drop k).take (lead b)) := if_pos hf
    have e2 : nxK l k b = (k : Int) + (lead b : Int) := if_pos hf
    rw [e1, e2] at D
    have HS := Lib.hid (HR.out.step hb hf)
    obtain ⟨n1, n2⟩ := num_bd GX.out hb hf
    clear e1 e2 hb
    generalize num ((l.drop k).take (lead b)) = n at *
    have E := Lib.hid (fun w' => specUnfold n w' n1 (by omega))
    generalize unfoldI n = u at *
    generalize lead b = q at *
    have hq0 : ¬ (k : Int) + (q : Int) < 0 := by omega
    go_wp2_with fail
    refine D.out.mono ?_
    rintro e w2 ⟨rfl, m, hw2⟩
    have rw2 : w2.ownsRow w.heap.size 3 1 (.slice aoo xs.length capo) xs.length (xs.map (Value.int .i64)) := by rw [hw2]; exact row_drewN hrow m
    have bl2 : Below w.heap.size w w2 := by rw [hw2]; exact drewN_b hbl m
    have z2 := bl2.size
    clear hw2 hrow hbl D
    go_wp2_with fail
    refine (E.out w2).mono ?_
    rintro e w3 ⟨rfl, hw3⟩
    obtain rfl := hw3.symm
    go_wp2_with (at_builtin; refine wpList_append_own _ rfl _ _ 22 rfl (w.heap.size) 3 ti (.int .i64 0) 1 8 Try.underlying22 hi hz0 hz1 hz2 rfl (by decide) _ xs.length (xs.map (Value.int .i64)) rfl (rw2.alloc _) ⟨w2.heap.size, 0, none⟩ 1 1 [.int .i64 u] rfl rfl (cell_one_new _ _ _) (by simp [Value.oneCell']) (by unfold maxLen; omega) (by omega) (by first | omega | (simp; done) | (simp; omega)) ?_; intro v7 w7 hown' hgrow _)
    have b7 := below_app2 rw2 hgrow z2 (Nat.le_refl _)
    have hrow7 : w7.ownsRow w.heap.size 3 1 v7 (xs ++ [u]).length ((xs ++ [u]).map (Value.int .i64)) := by simpa using hown'
    clear hown' hgrow rw2
    go_wp2
    go_roundw
    case rel => exact ⟨k + q, xs ++ [u], by go_num, HS.out, hrow7, bl2.trans b7⟩
    case measure => simp [intOf]; omega

set_option maxHeartbeats 400000 in
theorem specTor (l : List Int) (v : Value) (w : World) (B : Nat) (h : Lst (Value.int .i64) w B v l) (hB : B ≤ w.heap.size) (hn : l.length ≤ 1048576) :
    Calls Try.prog 31 #[v] w fun e w' => e = .returned (.tuple #[.int .i64 (resTor l), .bool (okB l)]) ∧ Below w.heap.size w w' := by
  cases hk : okB l with
  | false =>
    have e2 : resTor l = 0 := by unfold resTor; rw [hk]; rfl
    have C := Lib.hid (specLiB l v w B false h hk)
    rw [e2]
    clear e2 hk
    go_enter Try.func31, Try.ntmps31
    go_wp2_with fail
    refine C.out.mono ?_
    rintro e w1 ⟨rfl, hw⟩
    obtain rfl := hw.symm
    go_wp2
    go_ret2
    exact ⟨rfl, Below.refl _ _⟩
  | true =>
    have e2 : resTor l = (tn l : Int) := by unfold resTor; rw [hk]; rfl
    have C := Lib.hid (specLiB l v w B true h hk)
    have D := Lib.hid (specRd l v w B h hB hk)
    rw [e2]
    clear e2 hk
    go_enter Try.func31, Try.ntmps31
    go_wp2_with fail
    refine C.out.mono ?_
    rintro e w1 ⟨rfl, hw⟩
    obtain rfl := hw.symm
    go_wp2_with fail
    refine D.out.mono ?_
    rintro e w2 ⟨v2, rfl, ho, hb⟩
    go_wp2
    go_ret2
    exact ⟨rfl, hb⟩
/-- ReadableSamples. -/
def resRea (l : List Int) : List Int := if okB l then sm (rdD l) else []
theorem resRea_len (l : List Int) : (resRea l).length ≤ 1048576 := by
  unfold resRea
  have := (sm_len (rdD l)).2
  split
  · omega
  · simp
set_option maxHeartbeats 400000 in
theorem specRea (l : List Int) (v : Value) (w : World) (B : Nat) (h : Lst (Value.int .i64) w B v l) (hB : B ≤ w.heap.size) (hn : l.length ≤ 1048576) :
    Calls Try.prog 33 #[v] w fun e w' => ∃ v', e = .returned (.tuple #[v', .bool (okB l)]) ∧ Own (Value.int .i64) w' w.heap.size w'.heap.size v' (resRea l) ∧ Below w.heap.size w w' := by
  cases hk : okB l with
  | false =>
    have e2 : resRea l = [] := by unfold resRea; rw [hk]; rfl
    have C := Lib.hid (specLiB l v w B false h hk)
    rw [e2]
    clear e2 hk
    go_enter Try.func33, Try.ntmps33
    go_wp2_with fail
    refine C.out.mono ?_
    rintro e w1 ⟨rfl, hw⟩
    obtain rfl := hw.symm
    go_wp2
    go_ret2
    exact ⟨_, rfl, own_empty _ _ (Nat.le_refl _), (Below.refl _ _).alloc (Nat.le_refl _) _⟩
  | true =>
    have e2 : resRea l = sm (rdD l) := by unfold resRea; rw [hk]; rfl
    have C := Lib.hid (specLiB l v w B true h hk)
    have D := Lib.hid (specRd l v w B h hB hk)
    have hl := rdD_len l
    have E := Lib.hid (fun v2 w2 (ho : Own (Value.int .i64) w2 w.heap.size w2.heap.size v2 (rdD l)) => specSum (rdD l) v2 w2 w2.heap.size ho.lst (Nat.le_refl _) (by omega))
    rw [e2]
    clear e2 hk hl
    generalize rdD l = ds at *
    go_enter Try.func33, Try.ntmps33
    go_wp2_with fail
    refine C.out.mono ?_
    rintro e w1 ⟨rfl, hw⟩
    obtain rfl := hw.symm
    go_wp2_with fail
    refine D.out.mono ?_
    rintro e w2 ⟨v2, rfl, ho, hb⟩
    go_wp2_with fail
    refine (E.out _ _ ho).mono ?_
    rintro e w3 ⟨v3, rfl, ho3, hb3⟩
    obtain ⟨a3, c3, rfl⟩ := ho3.form
    go_wp2
    go_ret2
    exact ⟨_, rfl, ho3.mono hb.size (Nat.le_refl _), hb.trans (hb3.mono hb.size)⟩

set_option maxRecDepth 100000 in
set_option maxHeartbeats 1000000 in
theorem implRea (l : List Int) (v : Value) (w : World) (B : Nat) (h : Lst (Value.int .i64) w B v l) (hB : B ≤ w.heap.size) (hn : l.length ≤ 1048576) :
    Calls Try.prog 34 #[v] w fun e w' => ∃ v', e = .returned (.tuple #[v', .bool (okB l)]) ∧ Own (Value.int .i64) w' w.heap.size w'.heap.size v' (resRea l) ∧ Below w.heap.size w w' := by
  obtain ⟨ti, hi, hz0, hz1, hz2⟩ := info_parts infoInt
  have C := Lib.hid (implTor l v w B h hB hn)
  cases hk : okB l with
  | false =>
    have e2 : resRea l = [] := by unfold resRea; rw [hk]; rfl
    rw [e2]
    rw [hk] at C
    clear e2 hk
    go_enter Try.func34, Try.ntmps34
    go_wp2_with fail
    refine C.out.mono ?_
    rintro e w1 ⟨rfl, hb⟩
    go_wp2
    go_ret2
    exact ⟨_, rfl, own_empty _ _ hb.size, hb.alloc hb.size _⟩
  | true =>
    have e2 : resRea l = sm (rdD l) := by unfold resRea; rw [hk]; rfl
    have e3 : resTor l = (tn l : Int) := by unfold resTor; rw [hk]; rfl
    obtain ⟨gx, gn⟩ := okB_yes hk
    have GX := Lib.hid gx
    have HL := Lib.hid h
    have htn := tn_le hk
    have hdl := rdD_len l
    rw [e2]
    rw [hk, e3] at C
    obtain ⟨ao, cap, rfl, hcap, hmax, -, hc⟩ := h
    unfold maxLen at hmax
    have HC := Lib.hid hc
    clear e2 e3 hk gx hc
    go_enter Try.func34, Try.ntmps34
    go_wp2_with fail
    refine C.out.mono ?_
    rintro e w1 ⟨rfl, hb⟩
    have HL1 := Lib.hid (HL.out.below (hb.mono hB))
    have hrow0 := row_empty w1 (base := w1.heap.size) 3 1 (Nat.le_refl _)
    have hb0 : Below w1.heap.size w1 (w1.alloc (.cells #[] 3)) := (Below.refl _ _).alloc (Nat.le_refl _) _
    have hz := hb.size
    clear C HL
    go_wp2
    go_loopw [6, 7] (fun o i wr => ∃ (k : Nat) (xs : List Int), i = .int .i64 k ∧ k ≤ tn l ∧ RdS l xs k ∧ wr.ownsRow w1.heap.size 3 1 o xs.length (xs.map (Value.int .i64)) ∧ Below w1.heap.size w1 wr)
      (fun _ i _ => tn l - (intOf i).toNat)
    case atStart => exact ⟨0, [], rfl, Nat.zero_le _, RdS.zero l, by simpa using hrow0, hb0⟩
    case round =>
      obtain ⟨k, xs, rfl, hkt, hR, hrow, hbl⟩ := hrel
      obtain ⟨aoo, capo, rfl⟩ := row_form hrow
      have hsz := hbl.size
      have HR := Lib.hid hR
      have hkl := hR.1
      have hxl := hR.2.2.2
      clear hR
      by_cases hlt : k < tn l
      case neg =>
        have q2 : xs = rdD l := by
          refine (HR.out.stop (fun g b hb hf => ?_)).2
          have := (at_yes hb hf).1
          have := HR.out.2.1
          have := lead_pos b
          omega
        subst q2
        have E := Lib.hid (implSw (rdD l) _ wr wr.heap.size (Own.of_row hrow).lst (Nat.le_refl _) (by omega))
        go_wp2_with fail
        refine E.out.mono ?_
        rintro e w3 ⟨v3, rfl, ho3, hb3⟩
        obtain ⟨a3, c3, rfl⟩ := ho3.form
        go_wp2
        go_ret2
        exact ⟨_, rfl, ho3.mono (Nat.le_trans hz hsz) (Nat.le_refl _), (hb.trans (hbl.mono hz)).trans (hb3.mono (Nat.le_trans hz hsz))⟩
      obtain ⟨b, hb'⟩ := get_of_lt (l := l) (k := k) (by omega)
      obtain ⟨bx1, bx2⟩ := GX.out b (List.mem_of_getElem? hb')
      obtain ⟨g, off, rfl, hgB, hcell⟩ := HC.out k b hb'
      have hcell' := cellOf (hb.trans (hbl.mono hz)) (by omega) hcell
      have D := Lib.hid (implWf b wr bx1 bx2)
      have hlp := lead_pos b
      have hf := HR.out.fits hb' hlt
      have HS := Lib.hid (HR.out.step hb' hf)
      obtain ⟨n1, n2⟩ := num_bd GX.out hb' hf
      have hLs := (HL1.out.below (hbl.mono (by omega))).sub k (k + lead b) (by omega) hf
      rw [show k + lead b - k = lead b by omega] at hLs
      have hll : ((l.drop k).take (lead b)).length = lead b := by rw [List.length_take, List.length_drop]; omega
      have F := Lib.hid (implFf _ _ wr B hLs (fun x hx => GX.out x (List.mem_of_mem_drop (List.mem_of_mem_take hx))) (by omega))
      generalize num ((l.drop k).take (lead b)) = n at *
      have E := Lib.hid (fun w' => implUnfold n w' n1 (by omega))
      generalize unfoldI n = u at *
      have hi0 : (0 : Int) ≤ (k : Int) := by omega
      have hi1 : (k : Int) < (l.length : Int) := by omega
      have hkq : k + lead b ≤ tn l := by
        have := HS.out.2.1
        omega
      clear hb' hcell hLs hll
      generalize lead b = q at *
      go_wp2_with fail
      refine D.out.mono ?_
      rintro e w2 ⟨rfl, hw2⟩
      obtain rfl := hw2.symm
      have hj0 : (k : Int) ≤ (k : Int) + (q : Int) := by omega
      have hj1 : (k : Int) + (q : Int) ≤ (cap : Int) := by omega
      have hj2 : (0 : Int) ≤ (k : Int) + (q : Int) := by omega
      have hj3 : ((k : Int) + (q : Int)).toNat = k + q := by omega
      have hj4 : k + q - k = q := by omega
      go_wp2_with fail
      refine F.out.mono ?_
      rintro e w4 ⟨rfl, m, hw4⟩
      have rw4 : w4.ownsRow w1.heap.size 3 1 (.slice aoo xs.length capo) xs.length (xs.map (Value.int .i64)) := by rw [hw4]; exact row_drewN hrow m
      have bl4 : Below w1.heap.size w1 w4 := by rw [hw4]; exact drewN_b hbl m
      have z4 := bl4.size
      clear hw4 hrow hbl D F hcell'
      go_wp2_with fail
      refine (E.out w4).mono ?_
      rintro e w5 ⟨rfl, hw5⟩
      obtain rfl := hw5.symm
      go_wp2_with (at_builtin; refine wpList_append_own _ rfl _ _ 22 rfl (w1.heap.size) 3 ti (.int .i64 0) 1 8 Try.underlying22 hi hz0 hz1 hz2 rfl (by decide) _ xs.length (xs.map (Value.int .i64)) rfl (rw4.alloc _) ⟨w4.heap.size, 0, none⟩ 1 1 [.int .i64 u] rfl rfl (cell_one_new _ _ _) (by simp [Value.oneCell']) (by unfold maxLen; omega) (by omega) (by first | omega | (simp; done) | (simp; omega)) ?_; intro v7 w7 hown' hgrow _)
      have b7 := below_app2 rw4 hgrow z4 (Nat.le_refl _)
      have hrow7 : w7.ownsRow w1.heap.size 3 1 v7 (xs ++ [u]).length ((xs ++ [u]).map (Value.int .i64)) := by simpa using hown'
      clear hown' hgrow rw4
      go_wp2
      go_roundw
      case rel => exact ⟨k + q, xs ++ [u], by go_num, hkq, HS.out, hrow7, bl4.trans b7⟩
      case measure => simp [intOf]; omega

theorem implEqS (ss ts : List Int) (v v2 : Value) (w : World) (B : Nat) (h : Lst (Value.int .i64) w B v ss) (h2 : Lst (Value.int .i64) w B v2 ts) (hB : B ≤ w.heap.size) :
    Calls Try.prog 66 #[v, v2] w fun e w' => e = .returned (.bool (decide (ss = ts))) ∧ ∃ m, w' = w.drewN m := by
  obtain ⟨ao, cap, rfl, hcap, hmax, -, hc⟩ := h
  obtain ⟨ao2, cap2, rfl, hcap2, hmax2, -, hc2⟩ := h2
  unfold maxLen at hmax hmax2
  by_cases hl : ts.length = ss.length
  case neg =>
    have h1 : ((ss.length : Int) == (ts.length : Int)) = false := by simp; omega
    have h3 : ((ss.length : Int) != (ts.length : Int)) = true := by simp; omega
    have HG := Lib.hid (show decide (ss = ts) = false from decide_eq_false (fun e => hl (by rw [e])))
    clear hc hc2
    go_enter Try.func66, Try.ntmps66
    go_wp2
    go_ret
    exact ⟨ret_bool HG.out.symm, 0, by simp [World.drewN]⟩
  rw [hl]
  rw [hl] at hcap2
  have HL := Lib.hid hl
  clear hl
  go_enter Try.func66, Try.ntmps66
  go_wp2
  go_loopw [13] (fun i wr => ∃ (k : Nat), k ≤ ss.length ∧ i = .int .i64 k ∧ ss.take k = ts.take k ∧ ∃ m, wr = w.drewN m)
    (fun i _ => ss.length - (intOf i).toNat)
  case atStart => exact ⟨0, Nat.zero_le _, rfl, rfl, 0, by simp [World.drewN]⟩
  case round =>
    obtain ⟨k, hk, rfl, ht, m, rfl⟩ := hrel
    by_cases hlt : k < ss.length
    · obtain ⟨s, hs⟩ := get_of_lt hlt
      obtain ⟨t, ht1⟩ := get_of_lt (l := ts) (k := k) (by rw [HL.out]; exact hlt)
      obtain ⟨b, off, rfl, hb, hcell⟩ := hc k s hs
      obtain ⟨b2, off2, rfl, hb2, hcell2⟩ := hc2 k t ht1
      have hcell' : (w.drewN m).cell? ⟨b, off + k, none⟩ = some (.int .i64 s) := hcell
      have hcell2' : (w.drewN m).cell? ⟨b2, off2 + k, none⟩ = some (.int .i64 t) := hcell2
      have HS := Lib.hid hs
      have HT := Lib.hid ht1
      have HK := Lib.hid ht
      clear hs ht1 hcell hcell2 ht hc hc2
      have hi0 : (0 : Int) ≤ (k : Int) := by omega
      have hi1 : (k : Int) < (ss.length : Int) := by omega
      have HDD : ∀ j, ∃ m', (w.drewN m).drewN j = w.drewN m' := fun j => ⟨m + j, World.drewN_drewN _ _ _⟩
      have HDH := Lib.hid HDD
      clear HDD
      generalize w.drewN m = wr at *
      go_wp2
      by_cases hst : s = t
      · subst hst
        go_quiet (fail)
        go_wp2
        go_roundw
        case rel =>
          refine ⟨k + 1, by omega, by go_num, ?_, HDH.out _⟩
          rw [take_snoc HS.out, take_snoc HT.out, HK.out]
        case measure => simp [intOf]; omega
      · have hst1 : (s == t) = false := by simpa using hst
        have hst2 : (s != t) = true := by simpa using hst
        have HG := Lib.hid (show decide (ss = ts) = false from decide_eq_false (fun e => by
          have h1 := HS.out
          rw [e, HT.out] at h1
          exact hst (Option.some.inj h1).symm))
        go_quiet (fail)
        go_wp2
        go_ret
        exact ⟨ret_bool HG.out.symm, HDH.out _⟩
    · have HG := Lib.hid (show decide (ss = ts) = true from decide_eq_true (by
        rw [take_all hlt, take_all (by rw [HL.out]; exact hlt)] at ht
        exact ht))
      clear hc hc2
      go_wp2
      go_ret
      exact ⟨ret_bool HG.out.symm, m, rfl⟩
end Go.Proofs.Ytkgohnlljbamlaa
