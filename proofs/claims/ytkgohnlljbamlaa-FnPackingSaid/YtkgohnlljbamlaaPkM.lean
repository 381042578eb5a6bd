/- Packing: sums of differences, both programs. -/
import Derived.Test.YtkgohnlljbamlaaPkS
import Derived.Lib.MinMax
namespace Go.Proofs.Ytkgohnlljbamlaa
open Go.ChangeShapes Go.WideShapes Go.ChangeAt Go.RowKit Go.ChangeMaps
set_option linter.unusedSimpArgs false
set_option linter.unusedVariables false

/-- The first k differences gave sums o, the last of them is l. -/
def SmS (ds o : List Int) (l : Int) (k : Nat) : Prop := o.length = k ∧ k ≤ 24 ∧ k ≤ ds.length ∧ (∀ x ∈ o, -100000 ≤ x ∧ x ≤ 100000) ∧ (-100000 ≤ l ∧ l ≤ 100000) ∧ o ++ smF l k (ds.drop k) = sm ds
def smOk (l d : Int) (k : Nat) : Bool := okD d && (inS' (l + d) && decide (k < 24))
theorem SmS.zero (ds : List Int) : SmS ds [] 0 0 := ⟨rfl, by omega, by omega, by simp, by omega, by simp [sm]⟩
theorem SmS.bad {ds o : List Int} {l d : Int} {k : Nat} (h : SmS ds o l k) (hd : ds[k]? = some d) (hn : smOk l d k = false) : o = sm ds := by
  have := h.2.2.2.2.2
  rw [smF_step hd, show (okD d && (inS' (l + d) && decide (k < 24))) = false from hn] at this
  simpa using this
theorem SmS.step {ds o : List Int} {l d : Int} {k : Nat} (h : SmS ds o l k) (hd : ds[k]? = some d) (hy : smOk l d k = true) : SmS ds (o ++ [l + d]) (l + d) (k + 1) := by
  obtain ⟨h1, h2, h3, h4, h5, h6⟩ := h
  have hk := (List.getElem?_eq_some_iff.1 hd).1
  have hy2 := hy
  simp only [smOk, inS', Bool.and_eq_true, decide_eq_true_eq] at hy2
  rw [smF_step hd, show (okD d && (inS' (l + d) && decide (k < 24))) = true from hy] at h6
  refine ⟨by simp [h1], by omega, by omega, fun x hx => ?_, hy2.2.1, by rw [← h6]; simp⟩
  rcases List.mem_append.1 hx with hx | hx
  · exact h4 x hx
  · rw [List.mem_singleton.1 hx]; exact hy2.2.1
theorem SmS.stop {ds o : List Int} {l : Int} {k : Nat} (h : SmS ds o l k) (hk : ¬ (k < ds.length ∧ k < 24)) : o = sm ds := by
  have h6 := h.2.2.2.2.2
  cases hd : ds.drop k with
  | nil => rw [hd] at h6; simpa [smF] using h6
  | cons d t =>
    have hlt : k < ds.length := by
      rcases Nat.lt_or_ge k ds.length with g | g
      · exact g
      · rw [List.drop_of_length_le g] at hd; cases hd
    obtain ⟨x, hx⟩ := get_of_lt hlt
    exact h.bad hx (by simp only [smOk]; rw [decide_eq_false (show ¬ k < 24 by omega)]; simp)
def okFro (ds : List Int) : Bool := decide ((sm ds).length = ds.length)
def resFro (ds : List Int) : List Int := if okFro ds then sm ds else []
theorem resFro_len (ds : List Int) : (resFro ds).length ≤ 1048576 := by
  unfold resFro
  have := (sm_len ds).2
  split
  · omega
  · simp

theorem own_pre {w : World} {L g n m : Nat} {e : TypeId} {xs ys : List Int} (h : w.ownsRow L e 1 (.slice (some ⟨g, 0, none⟩) n m) n ((xs ++ ys).map (Value.int .i64))) : Own (Value.int .i64) w L w.heap.size (.slice (some ⟨g, 0, none⟩) xs.length m) xs := by
  have hl : (xs ++ ys).length = n := by have := h.1; simpa using this
  have ho : Own (Value.int .i64) w L w.heap.size (.slice (some ⟨g, 0, none⟩) n m) (xs ++ ys) := Own.of_row h
  obtain ⟨ao, cap, hv, h1, h2, h3, h4⟩ := ho
  simp only [Value.slice.injEq] at hv
  obtain ⟨rfl, -, rfl⟩ := hv
  refine ⟨_, _, rfl, by rw [List.length_append] at h1; omega, h2, by simp, fun i x hi => ?_⟩
  have hlt := (List.getElem?_eq_some_iff.1 hi).1
  obtain ⟨b, off, e1, e2, e3, e4, e5⟩ := h4 i x (by rw [List.getElem?_append_left hlt]; exact hi)
  exact ⟨b, off, e1, e2, e3, e4, e5⟩

theorem implIsS (d : Int) (w : World) : Calls Try.prog 81 #[.int .i64 d] w fun e w' => e = .returned (.bool (inS' d)) ∧ w' = w := by
  by_cases h1 : -100000 ≤ d
  · by_cases h2 : d ≤ 100000
    · have HG := Lib.hid (show inS' d = true from decide_eq_true ⟨h1, h2⟩)
      go_enter Try.func81, Try.ntmps81
      go_wp2
      go_ret
      exact ⟨ret_bool HG.out.symm, rfl⟩
    · have HG := Lib.hid (show inS' d = false from decide_eq_false (fun h => h2 h.2))
      go_enter Try.func81, Try.ntmps81
      go_wp2
      go_ret
      exact ⟨ret_bool HG.out.symm, rfl⟩
  · have HG := Lib.hid (show inS' d = false from decide_eq_false (fun h => h1 h.1))
    go_enter Try.func81, Try.ntmps81
    go_wp2
    go_ret
    exact ⟨ret_bool HG.out.symm, rfl⟩
theorem implIsSB (d : Int) (w : World) (r : Bool) (h : inS' d = r) : Calls Try.prog 81 #[.int .i64 d] w fun e w' => e = .returned (.bool r) ∧ w' = w := h ▸ implIsS d w
theorem row_split {ds : List Int} {m k : Nat} {d : Int} (hk : k < m) (hm : m ≤ ds.length) (hd : ds[k]? = some d) : (ds.take m).drop k = d :: (ds.take m).drop (k + 1) := by
  have h : (ds.take m)[k]? = some d := by rw [List.getElem?_take, if_pos hk]; exact hd
  have hl := (List.getElem?_eq_some_iff.1 h).1
  rw [List.drop_eq_getElem_cons hl]
  congr 1
  exact (List.getElem?_eq_some_iff.1 h).2
theorem set_mid {o R : List Int} {d s : Int} {k : Nat} (h : o.length = k) : (o ++ d :: R).set k s = o ++ s :: R := by
  rw [List.set_append, if_neg (by omega), h, Nat.sub_self]; rfl

set_option maxRecDepth 100000 in
set_option maxHeartbeats 2000000 in
theorem implSw (ds : List Int) (v : Value) (w : World) (B : Nat) (h : Lst (Value.int .i64) w B v ds) (hB : B ≤ w.heap.size) (hn : ds.length ≤ 1048576) :
    Calls Try.prog 56 #[v] w fun e w' => ∃ v', e = .returned v' ∧ Own (Value.int .i64) w' w.heap.size w'.heap.size v' (sm ds) ∧ Below w.heap.size w w' := by
  obtain ⟨ti, hi, hz0, hz1, hz2⟩ := info_parts infoInt
  have hsz := Lib.hid (show (Try.prog.info? 3).map (·.size) = some 1 by rw [hi]; simp [hz1])
  have H0 := Lib.hid h
  obtain ⟨ao, cap, rfl, hcap, hmax, h0, hc⟩ := h
  unfold maxLen at hmax
  obtain ⟨m, hm⟩ : ∃ m, m = min ds.length 24 := ⟨_, rfl⟩
  have hmin : min (ds.length : Int) 24 = (m : Int) := by omega
  have hm1 : m ≤ 24 := by omega
  have hm2 : m ≤ ds.length := by omega
  have hnm : m ≤ maxLen := by unfold maxLen; omega
  have HM := Lib.hid hm
  have HMI := Lib.hid hmin
  clear hc h0 hm hmin hcap hmax
  go_enter Try.func56, Try.ntmps56
  go_wp2_with (first
    | (at_make
       refine wpList_make_full _ rfl _ _ 22 rfl w.heap.size 3 ti (.int .i64 0) 1 Try.underlying22 hi hz0 hz1 .i64 .i64 _ _ m rfl rfl (by first | exact HMI.out | (rw [← HMI.out, Int.min_comm])) (by first | exact HMI.out | (rw [← HMI.out, Int.min_comm])) (by rw [hz2]; omega) hnm (Nat.le_refl _) ?_
       intro w2 hown hgrow
       have hb2 : Below w.heap.size w w2 := (Below.refl _ _).grown hgrow (Nat.le_refl _) (by simp)
       have H2 := H0.out.below (hb2.mono hB)
       have hg2 := row_heap hown
       have hcs := Lib.hid (src_copy H2 m)
       have HL : (madeCells (Value.int .i64 0).cells (m * 1)).toList.length = m := by simp [madeCells, Value.cells]
       generalize (madeCells (Value.int .i64 0).cells (m * 1)).toList = zs at *
       have HG2 := Lib.hid hg2
       have HZ := Lib.hid HL
       clear hg2 HL hown hgrow
       obtain ⟨cs, hcsE⟩ : ∃ cs, cs = (ds.take m).map (Value.int .i64) := ⟨_, rfl⟩
       rw [← hcsE] at hcs
       have HCE := Lib.hid hcsE
       have h1c : ∀ v ∈ cs, v.oneCell' = true := by
         intro v hv
         rw [hcsE] at hv
         obtain ⟨x, _, rfl⟩ := List.mem_map.1 hv
         rfl
       have HONE := Lib.hid h1c
       clear h1c
       have hcl : cs.length = m := by rw [hcsE, List.length_map, List.length_take]; omega
       have HCL := Lib.hid hcl
       clear hcsE hcl)
    | (with_reducible refine wpList_copy_splice (o := ⟨some 11, _, _, _, _, _⟩) rfl _ _ 22 22 rfl 3 Try.underlying22 hsz.out _ _ _ _ _ _ rfl rfl w.heap.size 0 zs 3 HG2.out cs (by rw [HCL.out]; exact (Nat.min_eq_right hm2).symm) (fun h => ⟨rfl, hcs.out h⟩) (by rw [HCL.out, HZ.out]; omega) HONE.out w.heap.size w hb2 (Nat.le_refl _) ?_
       intro w3 HG3 hb3))
  have hrow0 : w3.ownsRow w.heap.size 3 1 (.slice (some ⟨w.heap.size, 0, none⟩) m m) m ((ds.take m).map (Value.int .i64)) := by
    refine heap_row ?_ (Nat.le_refl _) (by rw [List.length_map, List.length_take]; omega) hnm
    rw [HG3.out]
    have : splice zs 0 cs = (ds.take m).map (Value.int .i64) := by
      unfold splice
      have h0 : zs.drop (0 + m) = [] := List.drop_of_length_le (by rw [HZ.out]; omega)
      rw [HCL.out, h0, HCE.out]; simp
    rw [this]
  have HR := Lib.hid hrow0
  have HDI := Lib.hid HM.out
  clear hrow0 HG3 HG2 HZ hcs HCE HCL HMI HM H0 H2 hb2
  go_loopw [14] (fun i wr => ∃ (k : Nat) (o : List Int) (l : Int), i = .int .i64 k ∧ k ≤ m ∧ SmS ds o l k ∧ wr.ownsRow w.heap.size 3 1 (.slice (some ⟨w.heap.size, 0, none⟩) m m) m ((o ++ (ds.take m).drop k).map (Value.int .i64)) ∧ ((k = 0 ∧ l = 0) ∨ ∃ j, k = j + 1 ∧ o[j]? = some l) ∧ Below w.heap.size w wr) (fun i _ => m - (intOf i).toNat)
  case atStart => exact ⟨0, [], 0, rfl, Nat.zero_le _, SmS.zero ds, by simpa using HR.out, Or.inl ⟨rfl, rfl⟩, hb3⟩
  case round =>
    obtain ⟨k, o, l, rfl, hk, hS, hrow, hlast, hbl⟩ := hrel
    have HOL := Lib.hid hS.1
    have HS := Lib.hid hS
    obtain ⟨l1, l2⟩ := hS.2.2.2.2.1
    clear hS
    by_cases hlt : k < m
    case neg =>
      obtain rfl : k = m := by omega
      have HE := Lib.hid (HS.out.stop (by have := HDI.out; omega))
      go_wp2
      go_ret
      exact ⟨_, rfl, by rw [← HE.out]; have := own_pre hrow; rwa [HOL.out] at this, hbl⟩
    obtain ⟨d, hd⟩ := get_of_lt (l := ds) (k := k) (by omega)
    rw [row_split hlt hm2 hd] at hrow
    obtain ⟨R, hR⟩ : ∃ R, R = (ds.take m).drop (k + 1) := ⟨_, rfl⟩
    rw [← hR] at hrow
    have HRE := Lib.hid hR.symm
    clear hR
    have hc0 : wr.cell? ⟨w.heap.size, k, none⟩ = some (.int .i64 d) := (hrow.cellAt k (by omega)).trans (by rw [List.getElem?_map, List.getElem?_append_right (by rw [HOL.out]; exact Nat.le_refl _), HOL.out, Nat.sub_self]; rfl)
    have hf0 := hrow.frozenAt k
    have HD := Lib.hid hd
    have HRW := Lib.hid hrow
    have hi0 : (0 : Int) ≤ (k : Int) := by omega
    have hi1 : (k : Int) < (m : Int) := by omega
    clear hd hrow
    cases hok : okD d with
    | false =>
      have HE := Lib.hid (HS.out.bad HD.out (by unfold smOk; rw [hok]; rfl))
      have C1 := Lib.hid (implIsDB d wr false hok)
      clear hok
      go_wp2_with fail
      refine C1.out.mono ?_
      rintro e w5 ⟨rfl, rfl⟩
      go_wp2
      go_ret
      exact ⟨_, rfl, by rw [← HE.out]; have := own_pre HRW.out; rwa [HOL.out] at this, hbl⟩
    | true =>
      have HOK := Lib.hid hok
      have C1 := Lib.hid (implIsDB d wr true hok)
      obtain ⟨d1, d2⟩ := of_decide_eq_true hok
      clear hok
      rcases hlast with ⟨hk0, rfl⟩ | ⟨j, rfl, hj⟩
      · have hk0' : ¬ (0 : Int) < (k : Int) := by omega
        have HSE := Lib.hid (show (0 : Int) + d = d by omega)
        clear hk0
        go_wp2_with fail
        refine C1.out.mono ?_
        rintro e w5 ⟨rfl, hw5⟩
        obtain rfl := hw5.symm
        cases hin : inS' d with
        | false =>
          have HE := Lib.hid (HS.out.bad HD.out (by unfold smOk; rw [HSE.out, hin]; simp))
          have C2 := Lib.hid (implIsSB d wr false hin)
          clear hin
          go_wp2_with fail
          refine C2.out.mono ?_
          rintro e w6 ⟨rfl, hw6⟩
          obtain rfl := hw6.symm
          go_wp2
          go_ret
          exact ⟨_, rfl, by rw [← HE.out]; have := own_pre HRW.out; rwa [HOL.out] at this, hbl⟩
        | true =>
          have HY := Lib.hid (HS.out.step HD.out (by unfold smOk; rw [HSE.out, hin, HOK.out, decide_eq_true (show k < 24 by omega)]; rfl))
          have C2 := Lib.hid (implIsSB d wr true hin)
          clear hin
          go_wp2_with fail
          refine C2.out.mono ?_
          rintro e w6 ⟨rfl, hw6⟩
          obtain rfl := hw6.symm
          go_wp2
          go_roundw
          case rel =>
            have HY2 := HY.out
            rw [HSE.out] at HY2
            refine ⟨k + 1, o ++ [d], d, by go_num, by omega, HY2, ?_, Or.inr ⟨k, rfl, by rw [List.getElem?_append_right (by rw [HOL.out]; exact Nat.le_refl _), HOL.out, Nat.sub_self]; rfl⟩, hbl⟩
            rw [HRE.out, show o ++ [d] ++ R = o ++ d :: R by simp]; exact HRW.out
          case measure => simp [intOf]; omega
      · have hj2 : (0 : Int) < ((j + 1 : Nat) : Int) := by omega
        have hc2 : wr.cell? ⟨w.heap.size, j, none⟩ = some (.int .i64 l) := (HRW.out.cellAt j (by omega)).trans (by rw [List.getElem?_map, List.getElem?_append_left (by rw [HOL.out]; omega), hj]; rfl)
        obtain ⟨s, hs⟩ : ∃ s, s = l + d := ⟨_, rfl⟩
        have HSE := Lib.hid hs.symm
        have s3 : IntKind.i64.wrap (d + l) = s := by rw [hs, Int.add_comm d l]; exact IntWalk.i64_in _ (by omega)
        have s1 : IntKind.i64.wrap ((j : Int) + 1 - 1) = (j : Int) := by rw [show (j : Int) + 1 - 1 = (j : Int) by omega]; exact IntWalk.i64_in _ (by omega)
        have s5 : (j : Int) + 1 - 1 = (j : Int) := by omega
        have s6 : IntKind.i64.wrap (j : Int) = (j : Int) := IntWalk.i64_in _ (by omega)
        have s4 : ((j : Int) + 1).toNat = j + 1 := by omega
        have hi3 : (j : Int) < (m : Int) := by omega
        have hi5 : (0 : Int) ≤ (j : Int) + 1 := by omega
        have hi6 : (j : Int) + 1 < (m : Int) := by omega
        have hi4 : (0 : Int) ≤ (j : Int) := by omega
        clear hj hs
        go_wp2_with fail
        refine C1.out.mono ?_
        rintro e w5 ⟨rfl, hw5⟩
        obtain rfl := hw5.symm
        go_wp2
        have hc0' : ({ wr with drawn := wr.drawn + 1 } : World).cell? ⟨w.heap.size, j + 1, none⟩ = some (.int .i64 d) := hc0
        have hc2' : ({ wr with drawn := wr.drawn + 1 } : World).cell? ⟨w.heap.size, j, none⟩ = some (.int .i64 l) := hc2
        go_still_tail 11, (by kernel_rfl)
        change wpList _ _ _ _ _ (wr.drewN 1)
        have hc5 : (wr.drewN 1).cell? ⟨w.heap.size, j + 1, none⟩ = some (.int .i64 d) := hc0
        have hf5 : (wr.drewN 1).frozen? ⟨w.heap.size, j + 1, none⟩ = false := hf0
        have hrow5 := ((row_drewN HRW.out 1).stored (j + 1) (.int .i64 s)).1
        rw [← List.map_set, set_mid HOL.out] at hrow5
        have HRW5 := Lib.hid hrow5
        have hb5 := (drewN_b hbl 1).setCell (p := ⟨w.heap.size, j + 1, none⟩) (Nat.le_refl _) (.int .i64 s)
        have hc6 : ((wr.drewN 1).setCell ⟨w.heap.size, j + 1, none⟩ (.int .i64 s)).cell? ⟨w.heap.size, j + 1, none⟩ = some (.int .i64 s) := (hrow5.cellAt (j + 1) (by omega)).trans (by rw [List.getElem?_map, List.getElem?_append_right (by rw [HOL.out]; exact Nat.le_refl _), HOL.out, Nat.sub_self]; rfl)
        clear hc0 hc2 hc0' hc2' hf0 hrow5
        generalize wr.drewN 1 = w5 at *
        cases hin : inS' s with
        | false =>
          have HE := Lib.hid (HS.out.bad HD.out (by unfold smOk; rw [HSE.out, hin]; simp))
          have C2 := Lib.hid (implIsSB s (w5.setCell ⟨w.heap.size, j + 1, none⟩ (.int .i64 s)) false hin)
          clear hin
          go_wp2_with fail
          refine C2.out.mono ?_
          rintro e w6 ⟨rfl, hw6⟩
          obtain rfl := hw6.symm
          go_wp2
          go_ret
          exact ⟨_, rfl, by rw [← HE.out]; have := own_pre HRW5.out; rwa [HOL.out] at this, hb5⟩
        | true =>
          have HY := Lib.hid (HS.out.step HD.out (by unfold smOk; rw [HSE.out, hin, HOK.out, decide_eq_true (show j + 1 < 24 by omega)]; rfl))
          have C2 := Lib.hid (implIsSB s (w5.setCell ⟨w.heap.size, j + 1, none⟩ (.int .i64 s)) true hin)
          clear hin
          go_wp2_with fail
          refine C2.out.mono ?_
          rintro e w6 ⟨rfl, hw6⟩
          obtain rfl := hw6.symm
          go_wp2
          go_roundw
          case rel =>
            have HY2 := HY.out
            rw [HSE.out] at HY2
            refine ⟨j + 1 + 1, o ++ [s], s, by go_num, by omega, HY2, ?_, Or.inr ⟨j + 1, rfl, by rw [List.getElem?_append_right (by rw [HOL.out]; exact Nat.le_refl _), HOL.out, Nat.sub_self]; rfl⟩, hb5⟩
            rw [HRE.out, show o ++ [s] ++ R = o ++ s :: R by simp]; exact HRW5.out
          case measure => simp [intOf]; omega
end Go.Proofs.Ytkgohnlljbamlaa
