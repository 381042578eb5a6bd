/- Packing: sums of differences, the specification; FromDifferences. -/
import Derived.Test.YtkgohnlljbamlaaPkM
import Derived.Test.YtkgohnlljbamlaaApS
namespace Go.Proofs.Ytkgohnlljbamlaa
open Go.ChangeShapes Go.WideShapes Go.ChangeAt Go.RowKit Go.ChangeMaps
set_option linter.unusedSimpArgs false
set_option linter.unusedVariables false

/-- The step of an append behind a guard that holds. -/
theorem step_append_srcW {P : Program} (w : World) {ops : Array Oper} {o : Oper} {a : Act} {K : Act → World → Prop} {Q : Exit → Act → World → Prop} {E : Prop} (hw : Region.wanted o (yielded ops a.tmps) = true) (s x : Operand) (t : TypeId)
    (ho : o.op = .call { callee := .builtin .append, args := #[s, x], argTypes := #[t, t] })
    (base : Nat) (e : TypeId) (i : TypeInfo) (z : Value) (bytes : Nat) (ht : P.underlying t = some (.slice e)) (hi : P.info? e = some i) (hz : i.zero = some z)
    (hsize : i.size = 1) (hby : i.bytes = bytes) (hzs : z.cells.size = 1)
    (v : Value) (n : Nat) (xs : List Value) (hs : a.eval s = v) (hown : w.ownsRow base e 1 v n xs)
    (sv : Value) (m : Nat) (news : List Value) (hx : a.eval x = sv) (hsrc : Src w sv m news)
    (h63 : n + m ≤ maxLen) (hbytes : (n + m) * bytes ≤ 140737488355328) (hbase : base ≤ w.heap.size)
    (h : ∀ v' w', w'.ownsRow base e 1 v' (n + m) (xs ++ news) → w.grownBy w' v.ownBlock → (v'.ownBlock = v.ownBlock ∨ v'.ownBlock = some w.heap.size) → K (a.put o.dst v') w') :
    if Region.wanted o (yielded ops a.tmps) = true then Oper.wp P o a w K Q else E := by
  rw [if_pos hw]
  exact wp_append_src w s x t ho base e i z bytes ht hi hz hsize hby hzs v n xs hs hown sv m news hx hsrc h63 hbytes hbase h
theorem src_box1 {w : World} {b cap : Nat} {x : Value} (h : Bx w b [x]) (h1 : x.oneCell' = true) : Src w (.slice (some ⟨b, 0, none⟩) 1 cap) 1 [x] := by
  refine Or.inr ⟨_, _, rfl, rfl, fun j u hu => ?_, fun u hu => by rw [List.mem_singleton.1 hu]; exact h1⟩
  rw [Addr.add_lit, Nat.zero_add]
  exact h.2 j u hu

set_option maxHeartbeats 400000 in
theorem implFro (ds : List Int) (v : Value) (w : World) (B : Nat) (h : Lst (Value.int .i64) w B v ds) (hB : B ≤ w.heap.size) (hn : ds.length ≤ 1048576) :
    Calls Try.prog 22 #[v] w fun e w' => ∃ v', e = .returned (.tuple #[v', .bool (okFro ds)]) ∧ Own (Value.int .i64) w' w.heap.size w'.heap.size v' (resFro ds) ∧ Below w.heap.size w w' := by
  obtain ⟨ao, cap, rfl⟩ := h.form
  have C := Lib.hid (implSw ds _ w B h hB hn)
  have hl := (sm_len ds).1
  cases hk : okFro ds with
  | false =>
    have e2 : resFro ds = [] := by unfold resFro; rw [hk]; rfl
    have hne := of_decide_eq_false hk
    have hlt : ((sm ds).length : Int) < (ds.length : Int) := by omega
    rw [e2]
    clear e2 hk hne hl h
    go_enter Try.func22, Try.ntmps22
    go_wp2_with fail
    refine C.out.mono ?_
    rintro e w1 ⟨v1, rfl, ho, hb⟩
    obtain ⟨a1, c1, rfl⟩ := ho.form
    go_wp2
    go_ret2
    exact ⟨_, rfl, own_empty _ _ hb.size, hb.alloc hb.size _⟩
  | true =>
    have e2 : resFro ds = sm ds := by unfold resFro; rw [hk]; rfl
    have hne := of_decide_eq_true hk
    have hlt : ¬ ((sm ds).length : Int) < (ds.length : Int) := by omega
    rw [e2]
    clear e2 hk hne hl h
    go_enter Try.func22, Try.ntmps22
    go_wp2_with fail
    refine C.out.mono ?_
    rintro e w1 ⟨v1, rfl, ho, hb⟩
    obtain ⟨a1, c1, rfl⟩ := ho.form
    go_wp2
    go_ret2
    exact ⟨_, rfl, ho, hb⟩

set_option maxRecDepth 100000 in
set_option maxHeartbeats 2000000 in
theorem specSum (ds : List Int) (v : Value) (w : World) (B : Nat) (h : Lst (Value.int .i64) w B v ds) (hB : B ≤ w.heap.size) (hn : ds.length ≤ 1048576) :
    Calls Try.prog 55 #[v] w fun e w' => ∃ v', e = .returned v' ∧ Own (Value.int .i64) w' w.heap.size w'.heap.size v' (sm ds) ∧ Below w.heap.size w w' := by
  obtain ⟨ti, hi, hz0, hz1, hz2⟩ := info_parts infoInt
  obtain ⟨ao, cap, rfl, hcap, hmax, hnn, hc⟩ := h
  unfold maxLen at hmax
  have hrow0 := row_empty w (base := w.heap.size) 3 1 (Nat.le_refl _)
  have hb0 : Below w.heap.size w (w.alloc (.cells #[] 3)) := (Below.refl _ _).alloc (Nat.le_refl _) _
  have HC := Lib.hid hc
  clear hc hnn
  go_enter Try.func55, Try.ntmps55
  go_wp2
  go_loopw [3, 4, 5] (fun o l i wr => ∃ (k : Nat) (os : List Int) (l' : Int), k ≤ ds.length ∧ i = .int .i64 k ∧ l = .int .i64 l' ∧ SmS ds os l' k ∧ wr.ownsRow w.heap.size 3 1 o os.length (os.map (Value.int .i64)) ∧ Below w.heap.size w wr)
    (fun _ _ i _ => ds.length - (intOf i).toNat)
  case atStart => exact ⟨0, [], 0, Nat.zero_le _, rfl, rfl, SmS.zero ds, by simpa using hrow0, hb0⟩
  case round =>
    obtain ⟨k, os, l, hk, rfl, rfl, hS, hrow, hbl⟩ := hrel
    obtain ⟨aoo, capo, rfl⟩ := row_form hrow
    have hsz := hbl.size
    have HS := Lib.hid hS
    have HOL := Lib.hid hS.1
    have hk24 := hS.2.1
    obtain ⟨l1, l2⟩ := hS.2.2.2.2.1
    have HOX := Lib.hid hS.2.2.2.1
    clear hS
    by_cases hlt : k < ds.length
    case neg =>
      obtain rfl : k = ds.length := by omega
      have HE := Lib.hid (HS.out.stop (by omega))
      go_wp2
      go_ret
      exact ⟨_, rfl, by rw [← HE.out]; exact Own.of_row hrow, hbl⟩
    obtain ⟨d, hd⟩ := get_of_lt hlt
    obtain ⟨b, off, rfl, hb, hcd⟩ := HC.out k d hd
    have hcd' := cellOf hbl (by omega) hcd
    have HD := Lib.hid hd
    have hi0 : (0 : Int) ≤ (k : Int) := by omega
    have hi1 : (k : Int) < (ds.length : Int) := by omega
    have HRW := Lib.hid hrow
    clear hd hcd hrow
    cases hok : okD d with
    | false =>
      have HE := Lib.hid (HS.out.bad HD.out (by unfold smOk; rw [hok]; rfl))
      have hok' := Lib.hid hok
      clear hok
      go_wp2
      go_quiet ((go_at_call 57; exact Calls.quiet_of_same (specIsDB d _ false hok'.out)))
      go_wp2
      go_ret
      exact ⟨_, rfl, by rw [← HE.out]; exact (Own.of_row HRW.out), drewN_b hbl _⟩
    | true =>
      have HOK := Lib.hid hok
      obtain ⟨d1, d2⟩ := of_decide_eq_true hok
      clear hok
      have LW : ∀ w', Below wr.heap.size wr w' → Lst (Value.int .i64) w' wr.heap.size (.slice aoo os.length capo) os := fun w' hb => (Own.of_row HRW.out).lst.below hb
      have HLW := Lib.hid LW
      have HS0 : ∀ w', Below wr.heap.size wr w' → (Below wr.heap.size wr w' ∧ w'.cell? ⟨b, off + k, none⟩ = some (.int .i64 d)) := fun w' hb => ⟨hb, cellOf hb (by omega) hcd'⟩
      have HS1 := Lib.hid HS0
      have KA : Below wr.heap.size wr wr.drew := (Below.refl _ _).drew
      have KB : Below wr.heap.size wr (wr.alloc (.cells #[.int .i64 (l + d)] 3)).drew := ((Below.refl _ _).alloc (Nat.le_refl _) _).drew
      have bB : Bx (wr.alloc (.cells #[.int .i64 (l + d)] 3)).drew wr.heap.size [.int .i64 (l + d)] := Bx.new wr [.int .i64 (l + d)] 3
      have s3 : IntKind.i64.wrap (l + d) = l + d := IntWalk.i64_in _ (by omega)
      have hosl : os.length ≤ 24 := by have := HOL.out; omega
      clear LW HS0
      obtain ⟨r, hr⟩ : ∃ r, (okX (os ++ [l + d]) && decide (((os ++ [l + d]).length : Int) ≤ 24)) = r := ⟨_, rfl⟩
      have hr2 : smOk l d k = r := by
        rw [← hr]
        unfold smOk
        rw [HOK.out]
        have e1 : okX (os ++ [l + d]) = inS' (l + d) := by
          unfold okX inS'
          rw [decide_eq_decide]
          constructor
          · intro g; exact g _ (by simp)
          · intro g x hx
            rcases List.mem_append.1 hx with hx | hx
            · exact HOX.out x hx
            · rw [List.mem_singleton.1 hx]; exact g
        have e2 : decide (((os ++ [l + d]).length : Int) ≤ 24) = decide (k < 24) := by
          rw [decide_eq_decide, List.length_append, HOL.out]; simp; omega
        rw [e1, e2]; rfl
      have HR := Lib.hid hr
      have HR2 := Lib.hid hr2
      clear hr hr2
      go_wp2
      go_region_held3 (fun w' => Below wr.heap.size wr w' ∧ w'.cell? ⟨b, off + k, none⟩ = some (.int .i64 d))
        (first
          | exact HS1.out _ KA
          | exact HS1.out _ KB
          | exact HS1.out _ B5
          | exact HS1.out _ B4
          | exact HS1.out _ (B4.alloc B4.size _))
        (first
          | (go_at_call 57; refine (specIsDB d _ true HOK.out).mono ?_; rintro e w3 ⟨rfl, rfl⟩)
          | (go_at_call 82; refine (specOwn os _ wr.drew wr.heap.size (HLW.out _ KA) KA.size (by omega)).mono ?_; rintro e w4 ⟨v4, rfl, r4, hb4⟩; have B4 : Below wr.heap.size wr w4 := KA.trans hb4; have z4 := B4.size; have bn := Bx.new w4 [.int .i64 (l + d)] 3)
          | (go_at_call 82; refine (specOwn os _ (wr.alloc (.cells #[.int .i64 (l + d)] 3)).drew wr.heap.size (HLW.out _ KB) KB.size (by omega)).mono ?_; rintro e w4 ⟨v4, rfl, r4', hb4⟩; have B4 : Below wr.heap.size wr w4 := KB.trans (hb4.mono KB.size); have z4 := B4.size; have bn := bB.below hb4; have r4 := Go.Joins.ownsRow_le r4' KB.size)
          | (refine step_append_srcW (w4.alloc (.cells #[.int .i64 (l + d)] 3)) (by first | rfl | kernel_rfl) _ _ _ (by rfl) wr.heap.size 3 ti (.int .i64 0) 8 Try.underlying22 hi hz0 hz1 hz2 rfl v4 os.length (os.map (Value.int .i64)) (by rfl) (r4.alloc _) _ 1 [.int .i64 (l + d)] (by rfl) (src_box1 bn rfl) (by unfold maxLen; omega) (by omega) (by first | omega | (simp; done) | (simp; omega)) ?_; intro v5 w5 hr5 hg5 hat5; have B5 : Below wr.heap.size wr w5 := Below.grown (B4.alloc B4.size _) hg5 (by first | omega | (simp; done) | (simp; omega)) (fun q hq => (r4.lt q hq).1); have z5 := B5.size; have r5 : Lst (Value.int .i64) w5 w5.heap.size v5 (os ++ [l + d]) := (Own.of_row (n := os.length + 1) (by simpa using hr5)).lst; clear hr5 hg5 hat5)
          | (refine step_append_srcW (w4) (by first | rfl | kernel_rfl) _ _ _ (by rfl) wr.heap.size 3 ti (.int .i64 0) 8 Try.underlying22 hi hz0 hz1 hz2 rfl v4 os.length (os.map (Value.int .i64)) (by rfl) (r4) _ 1 [.int .i64 (l + d)] (by rfl) (src_box1 bn rfl) (by unfold maxLen; omega) (by omega) (by first | omega | (simp; done) | (simp; omega)) ?_; intro v5 w5 hr5 hg5 hat5; have B5 : Below wr.heap.size wr w5 := Below.grown B4 hg5 (by first | omega | (simp; done) | (simp; omega)) (fun q hq => (r4.lt q hq).1); have z5 := B5.size; have r5 : Lst (Value.int .i64) w5 w5.heap.size v5 (os ++ [l + d]) := (Own.of_row (n := os.length + 1) (by simpa using hr5)).lst; clear hr5 hg5 hat5)
          | (go_at_call 52; refine (l2SamplesB (os ++ [l + d]) _ _ _ r r5 HR.out).mono ?_; rintro e w6 ⟨rfl, hw6⟩; obtain rfl := hw6.symm))
      all_goals
        have cd5 := cellOf B5 (show b < wr.heap.size by omega) hcd'
        have row5 := row_below HRW.out B5
        have bl5 := hbl.trans (B5.mono hsz)
        have HOX2 := HOX
        clear r5 bn r4 B4 B5 bB KA KB HLW HS1 HR hcd' HRW
        cases r with
        | false =>
          have HE := Lib.hid (HS.out.bad HD.out HR2.out)
          go_wp2
          go_ret
          exact ⟨_, rfl, by rw [← HE.out]; exact Own.of_row row5, bl5⟩
        | true =>
          have HY := Lib.hid (HS.out.step HD.out HR2.out)
          have z6 := bl5.size
          go_wp2_with (at_builtin; refine wpList_append_own _ rfl _ _ 22 rfl (w.heap.size) 3 ti (.int .i64 0) 1 8 Try.underlying22 hi hz0 hz1 hz2 rfl (by decide) _ os.length (os.map (Value.int .i64)) rfl (row5.alloc _) ⟨w5.heap.size, 0, none⟩ 1 1 [.int .i64 (l + d)] rfl rfl (cell_one_new _ _ _) (by simp [Value.oneCell']) (by unfold maxLen; omega) (by omega) (by first | omega | (simp; done) | (simp; omega)) ?_; intro v7 w7 hown' hgrow _)
          have b7 := below_app2 row5 hgrow z6 (Nat.le_refl _)
          have hrow7 : w7.ownsRow w.heap.size 3 1 v7 (os ++ [l + d]).length ((os ++ [l + d]).map (Value.int .i64)) := by simpa using hown'
          clear hown' hgrow row5
          go_wp2
          go_roundw
          case rel => exact ⟨k + 1, os ++ [l + d], l + d, by omega, by go_num, rfl, HY.out, hrow7, bl5.trans b7⟩
          case measure => simp [intOf]; omega

set_option maxHeartbeats 400000 in
theorem specFro (ds : List Int) (v : Value) (w : World) (B : Nat) (h : Lst (Value.int .i64) w B v ds) (hB : B ≤ w.heap.size) (hn : ds.length ≤ 1048576) :
    Calls Try.prog 21 #[v] w fun e w' => ∃ v', e = .returned (.tuple #[v', .bool (okFro ds)]) ∧ Own (Value.int .i64) w' w.heap.size w'.heap.size v' (resFro ds) ∧ Below w.heap.size w w' := by
  obtain ⟨ao, cap, rfl⟩ := h.form
  have C := Lib.hid (specSum ds _ w B h hB hn)
  cases hk : okFro ds with
  | false =>
    have e2 : resFro ds = [] := by unfold resFro; rw [hk]; rfl
    have hne := of_decide_eq_false hk
    have hlt : (((sm ds).length : Int) != (ds.length : Int)) = true := by simp; omega
    have hlt2 : (((sm ds).length : Int) == (ds.length : Int)) = false := by simp; omega
    rw [e2]
    clear e2 hk hne h
    go_enter Try.func21, Try.ntmps21
    go_wp2_with fail
    refine C.out.mono ?_
    rintro e w1 ⟨v1, rfl, ho, hb⟩
    obtain ⟨a1, c1, rfl⟩ := ho.form
    go_wp2
    go_ret2
    exact ⟨_, rfl, own_empty _ _ hb.size, hb.alloc hb.size _⟩
  | true =>
    have e2 : resFro ds = sm ds := by unfold resFro; rw [hk]; rfl
    have hne := of_decide_eq_true hk
    have hlt : (((sm ds).length : Int) != (ds.length : Int)) = false := by simp; omega
    have hlt2 : (((sm ds).length : Int) == (ds.length : Int)) = true := by simp; omega
    rw [e2]
    clear e2 hk hne h
    go_enter Try.func21, Try.ntmps21
    go_wp2_with fail
    refine C.out.mono ?_
    rintro e w1 ⟨v1, rfl, ho, hb⟩
    obtain ⟨a1, c1, rfl⟩ := ho.form
    go_wp2
    go_ret2
    exact ⟨_, rfl, ho, hb⟩
end Go.Proofs.Ytkgohnlljbamlaa
