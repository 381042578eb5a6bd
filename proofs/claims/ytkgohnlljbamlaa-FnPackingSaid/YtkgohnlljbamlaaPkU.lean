/- Packing: samples unpacked, both programs. -/
import Derived.Test.YtkgohnlljbamlaaPkQ
import Derived.Test.YtkgohnlljbamlaaPkC
namespace Go.Proofs.Ytkgohnlljbamlaa
open Go.ChangeShapes Go.WideShapes Go.ChangeAt Go.RowKit Go.ChangeMaps
set_option linter.unusedSimpArgs false
set_option linter.unusedVariables false

def okUnp (l : List Int) : Bool := okB l && (decide (tn l = l.length) && decide ((sm (rdD l)).length = (rdD l).length))
def resUnp (l : List Int) : List Int := if okUnp l then sm (rdD l) else []
theorem resUnp_len (l : List Int) : (resUnp l).length ≤ 1048576 := by
  unfold resUnp
  have := (sm_len (rdD l)).2
  split
  · omega
  · simp
theorem okL_sm (ds : List Int) : okL (sm ds) = true := okL_mk (smF_ok ds 0 0) (sm_len ds).2
theorem okUnp_eq {l : List Int} (h : okB l = true) : okUnp l = decide (pk (sm (rdD l)) = l) := by
  unfold okUnp
  rw [h, Bool.true_and, ← Bool.decide_and]
  exact decide_eq_decide.2 (unp_iff h).symm
set_option maxHeartbeats 1000000 in
theorem implUnp (l : List Int) (v : Value) (w : World) (B : Nat) (h : Lst (Value.int .i64) w B v l) (hB : B ≤ w.heap.size) (hn : l.length ≤ 1048576) :
    Calls Try.prog 30 #[v] w fun e w' => ∃ v', e = .returned (.tuple #[v', .bool (okUnp l)]) ∧ Own (Value.int .i64) w' w.heap.size w'.heap.size v' (resUnp l) ∧ Below w.heap.size w w' := by
  have C := Lib.hid (implRea l v w B h hB hn)
  cases hk : okB l with
  | false =>
    have e1 : okUnp l = false := by unfold okUnp; rw [hk]; rfl
    have e2 : resUnp l = [] := by unfold resUnp; rw [e1]; rfl
    rw [e1, e2]
    rw [hk] at C
    clear e1 e2 hk
    go_enter Try.func30, Try.ntmps30
    go_wp2_with fail
    refine C.out.mono ?_
    rintro e w1 ⟨v1, rfl, ho, hb⟩
    go_wp2
    go_ret2
    exact ⟨_, rfl, own_empty _ _ hb.size, hb.alloc hb.size _⟩
  | true =>
    have e3 : resRea l = sm (rdD l) := by unfold resRea; rw [hk]; rfl
    have e4 := okUnp_eq hk
    have ho := okL_sm (rdD l)
    have hp : resPck (sm (rdD l)) = pk (sm (rdD l)) := by unfold resPck; rw [ho]; rfl
    have hr : resUnp l = if okUnp l then sm (rdD l) else [] := rfl
    have hls := (sm_len (rdD l)).2
    rw [hr, e4]
    rw [hk, e3] at C
    have D := Lib.hid (fun v1 w1 (o1 : Own (Value.int .i64) w1 w.heap.size w1.heap.size v1 (sm (rdD l))) => implPck (sm (rdD l)) v1 w1 w1.heap.size o1.lst (Nat.le_refl _) (by omega))
    rw [ho, hp] at D
    have E := Lib.hid (fun v2 w2 (o2 : Lst (Value.int .i64) w2 w2.heap.size v2 (pk (sm (rdD l)))) (hl : Lst (Value.int .i64) w2 w2.heap.size v l) => implEqS _ l v2 v w2 w2.heap.size o2 hl (Nat.le_refl _))
    clear e3 e4 hk ho hp hr
    generalize pk (sm (rdD l)) = ps at *
    generalize sm (rdD l) = ss at *
    have HL := Lib.hid h
    clear h
    obtain ⟨r, hr⟩ : ∃ r, decide (ps = l) = r := ⟨_, rfl⟩
    rw [hr] at E ⊢
    clear hr
    go_enter Try.func30, Try.ntmps30
    go_wp2_with fail
    refine C.out.mono ?_
    rintro e w1 ⟨v1, rfl, ho, hb⟩
    go_wp2_with fail
    refine (D.out _ _ ho).mono ?_
    rintro e w2 ⟨v2, rfl, ho2, hb2⟩
    have B2 := hb.trans (hb2.mono hb.size)
    go_wp2_with fail
    refine (E.out _ _ ho2.lst ((HL.out.below (B2.mono hB)).mono (Nat.le_trans hB B2.size))).mono ?_
    rintro e w3 ⟨rfl, m, hw3⟩
    have B3 : Below w.heap.size w w3 := by rw [hw3]; exact drewN_b B2 m
    have hb3 : Below w1.heap.size w1 w3 := by rw [hw3]; exact drewN_b hb2 m
    have o3 := ho.below hb3
    clear hw3 C D E
    cases r with
    | true =>
      obtain ⟨a1, c1, rfl⟩ := ho.form
      go_wp2
      go_ret2
      exact ⟨_, rfl, o3.mono (Nat.le_refl _) hb3.size, B3⟩
    | false =>
      go_wp2
      go_ret2
      exact ⟨_, rfl, own_empty _ _ B3.size, B3.alloc B3.size _⟩
set_option maxHeartbeats 1000000 in
theorem specUnp (l : List Int) (v : Value) (w : World) (B : Nat) (h : Lst (Value.int .i64) w B v l) (hB : B ≤ w.heap.size) (hn : l.length ≤ 1048576) :
    Calls Try.prog 29 #[v] w fun e w' => ∃ v', e = .returned (.tuple #[v', .bool (okUnp l)]) ∧ Own (Value.int .i64) w' w.heap.size w'.heap.size v' (resUnp l) ∧ Below w.heap.size w w' := by
  cases hk : okB l with
  | false =>
    have e1 : okUnp l = false := by unfold okUnp; rw [hk]; rfl
    have e2 : resUnp l = [] := by unfold resUnp; rw [e1]; rfl
    have C := Lib.hid (specLiB l v w B false h hk)
    rw [e1, e2]
    clear e1 e2 hk
    go_enter Try.func29, Try.ntmps29
    go_wp2_with fail
    refine C.out.mono ?_
    rintro e w1 ⟨rfl, hw⟩
    obtain rfl := hw.symm
    go_wp2
    go_ret2
    exact ⟨_, rfl, own_empty _ _ (Nat.le_refl _), (Below.refl _ _).alloc (Nat.le_refl _) _⟩
  | true =>
    have C := Lib.hid (specLiB l v w B true h hk)
    have D := Lib.hid (specRd l v w B h hB hk)
    have hl := rdD_len l
    have e4 : okUnp l = (decide (tn l = l.length) && decide ((sm (rdD l)).length = (rdD l).length)) := by unfold okUnp; rw [hk, Bool.true_and]
    have hr : resUnp l = if okUnp l then sm (rdD l) else [] := rfl
    have E := Lib.hid (fun v2 w2 (ho : Own (Value.int .i64) w2 w.heap.size w2.heap.size v2 (rdD l)) => specSum (rdD l) v2 w2 w2.heap.size ho.lst (Nat.le_refl _) (by omega))
    rw [hr, e4]
    obtain ⟨ao, cap, rfl⟩ := h.form
    clear hk hl hr e4
    generalize tn l = t at *
    generalize rdD l = ds at *
    generalize sm ds = ss at *
    obtain ⟨r, hr⟩ : ∃ r, (decide (t = l.length) && decide (ss.length = ds.length)) = r := ⟨_, rfl⟩
    rw [hr]
    go_enter Try.func29, Try.ntmps29
    go_wp2_with fail
    refine C.out.mono ?_
    rintro e w1 ⟨rfl, hw⟩
    obtain rfl := hw.symm
    go_wp2_with fail
    refine D.out.mono ?_
    rintro e w2 ⟨v2, rfl, ho, hb⟩
    go_wp2_with fail
    refine (E.out _ _ ho).mono ?_
    rintro e w3 ⟨v3, rfl, ho3, hb3⟩
    have B3 := hb.trans (hb3.mono hb.size)
    obtain ⟨a2, c2, rfl⟩ := ho.form
    obtain ⟨a3, c3, rfl⟩ := ho3.form
    cases r with
    | true =>
      rw [Bool.and_eq_true, decide_eq_true_eq, decide_eq_true_eq] at hr
      obtain ⟨h1, h2⟩ := hr
      have d1 : ((t : Int) == (l.length : Int)) = true := by simp; omega
      have d2 : ((ss.length : Int) == (ds.length : Int)) = true := by simp; omega
      have d3 : ((t : Int) != (l.length : Int)) = false := by simp; omega
      have d4 : ((ss.length : Int) != (ds.length : Int)) = false := by simp; omega
      clear C D E h1 h2
      go_wp2
      go_ret2
      exact ⟨_, rfl, ho3.mono hb.size (Nat.le_refl _), B3⟩
    | false =>
      by_cases h1 : t = l.length
      · have h2 : ¬ ss.length = ds.length := fun g => by rw [decide_eq_true h1, decide_eq_true g] at hr; cases hr
        have d1 : ((t : Int) == (l.length : Int)) = true := by simp; omega
        have d2 : ((ss.length : Int) == (ds.length : Int)) = false := by simp; omega
        have d3 : ((t : Int) != (l.length : Int)) = false := by simp; omega
        have d4 : ((ss.length : Int) != (ds.length : Int)) = true := by simp; omega
        clear C D E h1 h2 hr
        go_wp2
        go_ret2
        exact ⟨_, rfl, own_empty _ _ B3.size, B3.alloc B3.size _⟩
      · have d1 : ((t : Int) == (l.length : Int)) = false := by simp; omega
        have d3 : ((t : Int) != (l.length : Int)) = true := by simp; omega
        clear C D E h1 hr
        go_wp2
        go_ret2
        exact ⟨_, rfl, own_empty _ _ B3.size, B3.alloc B3.size _⟩
end Go.Proofs.Ytkgohnlljbamlaa
