/- Location by boxes: the cubes of a tree, by the program. -/
import Derived.Test.YtoogofceoinniaaLpC
namespace Go.Proofs.Ytoogofceoinniaa
open Go.ChangeShapes Go.WideShapes Go.ChangeAt Go.RowKit Go.ChangeMaps Go.Sort
set_option linter.unusedSimpArgs false
set_option linter.unusedVariables false
set_option linter.unusedSimpArgs false
set_option linter.unusedVariables false

theorem flatten_snoc {α : Type} {rs : List (List α)} {k : Nat} {q : List α} (h : rs[k]? = some q) : (rs.take (k + 1)).flatten = (rs.take k).flatten ++ q := by
  rw [take_snoc h, List.flatten_append]
  simp
theorem flatten_take_len {α : Type} (rs : List (List α)) (k : Nat) : (rs.take k).flatten.length ≤ rs.flatten.length := by
  conv => rhs; rw [← List.take_append_drop k rs, List.flatten_append, List.length_append]
  omega
set_option maxRecDepth 100000 in
set_option maxHeartbeats 16000000 in
theorem implCubes (s : Int) : ∀ (e : Nat) (v : Value) (r : List GCube) (w : World) (L B : Nat), TreeV w L B s e v r → B ≤ w.heap.size → r.length ≤ 262144 →
    Calls Try.prog 68 #[v, .int .i64 s] w fun e' w' => ∃ v', e' = .returned v' ∧ CubeO w' w.heap.size w'.heap.size v' r ∧ Below w.heap.size w w' := by
  intro e
  induction e with
  | zero =>
    intro v r w L B h hB hr
    rcases h with ⟨h1, rfl⟩ | ⟨g, b, rfl, h2, h3, h4, h5, rfl⟩
    case inl =>
      obtain rfl : v = .pointer none := h1
      have hown := Lib.hid (ownK_empty encCube_len (by omega) w (L := w.heap.size) 25 (Nat.le_refl _))
      clear hr
      go_enter Try.func68, Try.ntmps68
      go_wp2
      go_ret
      exact ⟨_, rfl, hown.out, (Below.refl _ _).alloc (Nat.le_refl _) _⟩
    case inr =>
      have t0 := h4.2 0 _ rfl
      have t1 := h4.2 1 _ rfl
      have t2 := h4.2 2 _ rfl
      have t3 := h4.2 3 _ rfl
      have t4 := h4.2 4 _ rfl
      have HE := Lib.hid h5
      rw [h5] at t2
      have HO := Lib.hid (ownCb_one b w 25 (L := w.heap.size) (Nat.le_refl _))
      rw [h5] at HO
      clear h5 hr h4
      go_enter Try.func68, Try.ntmps68
      go_wp2
      go_ret
      exact ⟨_, rfl, HO.out, (Below.refl _ _).alloc (Nat.le_refl _) _⟩
  | succ e ih =>
    intro v r w L B h hB hr
    rcases h with ⟨h1, rfl⟩ | ⟨g, b, ps, rs, rfl, h2, h3, h4, h5, h6, h7, h8, h9⟩
    case inl =>
      obtain rfl : v = .pointer none := h1
      have hown := Lib.hid (ownK_empty encCube_len (by omega) w (L := w.heap.size) 25 (Nat.le_refl _))
      clear hr ih
      go_enter Try.func68, Try.ntmps68
      go_wp2
      go_ret
      exact ⟨_, rfl, hown.out, (Below.refl _ _).alloc (Nat.le_refl _) _⟩
    case inr =>
      have IH := Lib.hid ih
      have t0 := h4.2 0 _ rfl
      have t1 := h4.2 1 _ rfl
      have t2 := h4.2 2 _ rfl
      have t3 := h4.2 3 _ rfl
      have t4 := h4.2 4 _ rfl
      obtain ⟨p0, p1, p2, p3, rfl⟩ : ∃ p0 p1 p2 p3, ps = [p0, p1, p2, p3] := by
        match ps, h6 with
        | [p0, p1, p2, p3], _ => exact ⟨p0, p1, p2, p3, rfl⟩
      have h41 := h4.alloc (.cells #[] 25)
      have t5 := h41.2 5 _ rfl
      have t6 := h41.2 6 _ rfl
      have t7 := h41.2 7 _ rfl
      have t8 := h41.2 8 _ rfl
      have HT := Lib.hid h9
      have HR := Lib.hid h8
      have HN := Lib.hid h7
      have HI : Hid (∀ (k : Nat) p, k < 4 → [p0, p1, p2, p3][k]? = some p → ∀ w, (Instr.index 118 (.agg #[p0, p1, p2, p3]) (.int .i64 (k : Int))).run Try.prog w = .ok p w) := Lib.hid (by
        intro k p hk hp
        have i0 : ∀ w, (Instr.index 118 (.agg #[p0, p1, p2, p3]) (.int .i64 0)).run Try.prog w = .ok p0 w := fun _ => by kernel_rfl
        have i1 : ∀ w, (Instr.index 118 (.agg #[p0, p1, p2, p3]) (.int .i64 1)).run Try.prog w = .ok p1 w := fun _ => by kernel_rfl
        have i2 : ∀ w, (Instr.index 118 (.agg #[p0, p1, p2, p3]) (.int .i64 2)).run Try.prog w = .ok p2 w := fun _ => by kernel_rfl
        have i3 : ∀ w, (Instr.index 118 (.agg #[p0, p1, p2, p3]) (.int .i64 3)).run Try.prog w = .ok p3 w := fun _ => by kernel_rfl
        match k, hk, hp with
        | 0, _, hp => cases hp; exact i0
        | 1, _, hp => cases hp; exact i1
        | 2, _, hp => cases hp; exact i2
        | 3, _, hp => cases hp; exact i3)
      have HFL := Lib.hid (fun k => Nat.le_trans (Nat.le_trans (flatten_take_len rs k) (Nat.le_of_eq (by rw [h8]))) hr)
      have hrow0 := rowK_empty w (base := w.heap.size) 25 5 (Nat.le_refl _)
      have B0 := (Below.refl w.heap.size w).alloc (Nat.le_refl _) (.cells #[] 25)
      obtain ⟨ti, hti, hz0, hz1, hz2⟩ := info_parts info_Cube
      have hbs : (b.pSide == s) = false := by simpa using h5
      clear ih h6 h7 h8 h9 h4 h41
      go_enter Try.func68, Try.ntmps68
      go_wp2
      go_loopw [5, 28] (fun q iv wr => ∃ (k n : Nat) (v : Value) (il : List GCube), k ≤ 4 ∧ iv = .int .i64 k ∧ q = v ∧ Hid (il.length = n) ∧ n ≤ 262144 ∧ Hid (il = (rs.take k).flatten) ∧ wr.ownsRow w.heap.size 25 5 v n (il.flatMap encCube) ∧ (∃ ao cap, v = .slice ao n cap) ∧ Below w.heap.size w wr)
        (fun _ iv _ => 4 - (intOf iv).toNat)
      case atStart => exact ⟨0, 0, _, [], Nat.zero_le _, rfl, rfl, Lib.hid rfl, Nat.zero_le _, Lib.hid rfl, hrow0, ⟨_, _, rfl⟩, B0⟩
      case round =>
        obtain ⟨k, n, _, il, hk, rfl, rfl, HLN, hn, HIL, hrow, ⟨oa, oc, rfl⟩, hbl⟩ := hrel
        have hsz := hbl.size
        clear hrow0 B0 t0 t1 t2 t3 t4 t5 t6 t7 t8
        by_cases hlt : k < 4
        case neg =>
          obtain rfl : k = 4 := by omega
          have HE : Hid (il = r) := Lib.hid (by rw [HIL.out, List.take_of_length_le (by rw [HN.out]; exact Nat.le_refl _), ← HR.out])
          go_wp2
          go_ret
          exact ⟨_, rfl, by rw [← HE.out]; exact OwnK.of_row encCube_len (by omega) hrow, hbl⟩
        obtain ⟨p, hp⟩ := get_of_lt (l := [p0, p1, p2, p3]) (k := k) hlt
        obtain ⟨q, hq⟩ := get_of_lt (l := rs) (k := k) (by rw [HN.out]; exact hlt)
        have hix := HI.out k p hlt hp
        have HFS := Lib.hid (flatten_snoc hq)
        have hfl := HFL.out (k + 1)
        rw [HFS.out, ← HIL.out, List.length_append, HLN.out] at hfl
        have CI := Lib.hid (IH.out p q wr L B ((HT.out k p q hp hq).below (hbl.mono hB) hB) (Nat.le_trans hB hsz) (by omega))
        have hk0 : (0 : Int) ≤ (k : Int) := by omega
        have hk4 : (k : Int) < 4 := by omega
        obtain ⟨m, hm⟩ : ∃ m, q.length = m := ⟨_, rfl⟩
        rw [hm] at hfl
        have HM : Hid ((il ++ q).length = n + m) := Lib.hid (by rw [List.length_append, HLN.out, hm])
        have HIL2 : Hid (il ++ q = (rs.take (k + 1)).flatten) := Lib.hid (by rw [HFS.out, HIL.out])
        have HMM := Lib.hid hm
        clear hp hq hm
        go_wp2_with fail
        refine CI.out.mono ?_
        rintro e9 w4 ⟨v4, rfl, hown4, hb4⟩
        have hbl4 := hbl.trans (hb4.mono hsz)
        have z4 := hbl4.size
        have hrow4 := row_below hrow hb4
        clear hrow hb4
        rcases cubeL_src hown4 with ⟨rfl, hr4⟩ | ⟨a4, cp4, rfl, hsrc⟩
        · have hm0 : m = 0 := by rw [← HMM.out, hr4]; rfl
          have HR4 := Lib.hid hr4
          subst hm0
          clear hr4 hown4
          go_wp2_with (at_builtin; refine wpList_append_own_none rfl _ _ 39 rfl w.heap.size 25 ti 5 Try.underlying39 hti _ n (il.flatMap encCube) rfl hrow4 rfl ?_)
          go_wp2
          go_roundw
          case rel => exact ⟨k + 1, n, _, il ++ q, by omega, by go_num, rfl, HM, by omega, HIL2, (by rw [HR4.out, List.append_nil]; exact hrow4), ⟨_, _, rfl⟩, hbl4⟩
          case measure => simp [intOf]; omega
        · rw [HMM.out] at hsrc
          have HSRC := Lib.hid hsrc
          rw [HMM.out]
          clear hsrc hown4
          go_wp2_with (at_builtin; refine wpList_append_srcK _ rfl _ _ 39 rfl w.heap.size 25 ti (.agg #[.int .i64 0, .int .i64 0, .int .i64 0, .int .i64 0, .int .i64 0]) 5 40 Try.underlying39 hti hz0 hz1 hz2 rfl (by decide) _ n (il.flatMap encCube) rfl hrow4 _ m (q.flatMap encCube) rfl HSRC.out (by unfold maxLen; omega) (by omega) (by first | omega | (simp; done) | (simp; omega)) ?_; intro v8 w8 hown' hgrow _)
          have N8 : Below w.heap.size w w8 := Below.grown hbl4 hgrow z4 (fun q hq => (hrow4.lt q hq).1)
          have hrow8 : w8.ownsRow w.heap.size 25 5 v8 (n + m) ((il ++ q).flatMap encCube) := by simpa using hown'
          obtain ⟨a8, c8, rfl⟩ := row_form hrow8
          have HR8 := Lib.hid hrow8
          clear hown' hgrow hrow8
          go_wp2
          go_roundw
          case rel => exact ⟨k + 1, n + m, _, il ++ q, by omega, by go_num, rfl, HM, by omega, HIL2, HR8.out, ⟨_, _, rfl⟩, N8⟩
          case measure => simp [intOf]; omega
end Go.Proofs.Ytoogofceoinniaa
