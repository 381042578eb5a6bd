/- FnPacking: the mathematics, and contracts that tell where rows lie. -/
import Derived.Test.YtkgohnlljbamlaaPkU
import Derived.Test.YtkgohnlljbamlaaPkE
import Derived.Test.YtkgohnlljbamlaaPkW
import Derived.Test.YtkgohnlljbamlaaVi
namespace Go.Proofs.Ytkgohnlljbamlaa
open Go.ChangeShapes Go.WideShapes Go.ChangeAt Go.RowKit Go.ChangeMaps
set_option linter.unusedSimpArgs false
set_option linter.unusedVariables false

theorem lead1' {b : Int} (h : b < 192) : lead b = 1 := if_pos h
theorem byt_head {n : Int} (h0 : 0 ≤ n) (h1 : n ≤ 2105535) : ∃ c t, byt n = c :: t ∧ lead c = wid n ∧ t.length + 1 = wid n := by
  unfold byt wid
  split
  · rename_i h
    exact ⟨n, [], rfl, lead1' h, rfl⟩
  · rename_i h
    split
    · rename_i h2
      exact ⟨_, _, rfl, by unfold lead; rw [if_neg (by omega), if_pos (by omega)], rfl⟩
    · rename_i h2
      exact ⟨_, _, rfl, by unfold lead; rw [if_neg (by omega), if_neg (by omega)], rfl⟩
theorem rd_short {n : Int} (h0 : 0 ≤ n) (h1 : n ≤ 2105535) {m : Nat} (hm : m < wid n) : rd ((byt n).take m) = [] := by
  obtain ⟨c, t, e, hl, ht⟩ := byt_head h0 h1
  cases m with
  | zero => rw [List.take_zero, rd_nil]
  | succ m =>
    rw [e, List.take_succ_cons, rd_no (by rw [hl, List.length_take]; omega)]
theorem rd_take : ∀ (ns : List Int), (∀ n ∈ ns, 0 ≤ n ∧ n ≤ 2105535) → ∀ m, ∃ j, j ≤ ns.length ∧ rd ((pkN ns).take m) = ns.take j
  | [], _, m => ⟨0, by simp, by simp [pkN, rd_nil]⟩
  | n :: ns, h, m => by
    have h1 := h n (by simp)
    by_cases hm : wid n ≤ m
    · obtain ⟨j, hj, e⟩ := rd_take ns (fun x hx => h x (by simp [hx])) (m - wid n)
      refine ⟨j + 1, by simp; omega, ?_⟩
      rw [pkN_cons, List.take_append, List.take_of_length_le (by rw [byt_len]; exact hm), byt_len, (rd_byt h1.1 h1.2 _).1, e, List.take_succ_cons]
    · refine ⟨0, by simp, ?_⟩
      rw [pkN_cons, List.take_append, byt_len, show m - wid n = 0 by omega, List.take_zero, List.append_nil, List.take_zero]
      exact rd_short h1.1 h1.2 (by omega)
theorem dif_take : ∀ (xs : List Int) (l : Int) (j : Nat), difF l (xs.take j) = (difF l xs).take j
  | [], _, j => by simp [difF]
  | x :: xs, l, 0 => by simp [difF]
  | x :: xs, l, j + 1 => by simp only [List.take_succ_cons, difF, dif_take xs x j]
theorem pk_bytes {xs : List Int} (h : okL xs = true) : (∀ b ∈ pk xs, 0 ≤ b ∧ b ≤ 255) ∧ (pk xs).length ≤ 72 := by
  have hd := dif_okD h
  constructor
  · intro b hb
    unfold pk pkD pkN at hb
    obtain ⟨n, hn, hb⟩ := List.mem_flatMap.1 hb
    obtain ⟨d, hd', rfl⟩ := List.mem_map.1 hn
    exact byt_byte (fold_nonneg d) (okD_fold (hd d hd')) b hb
  · have := pk_len xs
    have := (okL_yes h).2
    omega
theorem okB_pk {xs : List Int} (h : okL xs = true) (m : Nat) : okB ((pk xs).take m) = true := by
  obtain ⟨h1, h2⟩ := pk_bytes h
  unfold okB
  rw [Bool.and_eq_true, decide_eq_true_eq, decide_eq_true_eq]
  exact ⟨fun b hb => h1 b (List.mem_of_mem_take hb), by rw [List.length_take]; omega⟩
theorem part_eq {xs : List Int} (h : okL xs = true) (m : Nat) : ∃ j, j ≤ xs.length ∧ resRea ((pk xs).take m) = xs.take j := by
  obtain ⟨gx, gn⟩ := okL_yes h
  have hd : ∀ n ∈ (dif xs).map fold, 0 ≤ n ∧ n ≤ 2105535 := by
    intro n hn
    obtain ⟨d, hd, rfl⟩ := List.mem_map.1 hn
    have := okD_fold (dif_okD h d hd)
    have := fold_nonneg d
    omega
  obtain ⟨j, hj, e⟩ := rd_take _ hd m
  rw [List.length_map, dif_len] at hj
  refine ⟨j, hj, ?_⟩
  unfold resRea
  rw [okB_pk h, if_pos rfl]
  have e2 : rdD ((pk xs).take m) = dif (xs.take j) := by
    unfold rdD pk pkD
    rw [e, ← List.map_take, map_unfold_fold]
    exact (dif_take xs 0 j).symm
  rw [e2]
  exact sm_dif (fun x hx => gx x (List.mem_of_mem_take hx)) (by rw [List.length_take]; omega)
theorem unp_pk {xs : List Int} (h : okL xs = true) : okUnp (pk xs) = true ∧ resUnp (pk xs) = xs := by
  obtain ⟨gx, gn⟩ := okL_yes h
  obtain ⟨e1, e2⟩ := rdD_pk gx
  have e3 : sm (dif xs) = xs := sm_dif gx gn
  have hb : okB (pk xs) = true := by have := okB_pk h (pk xs).length; rwa [List.take_length] at this
  have ho : okUnp (pk xs) = true := by
    unfold okUnp
    rw [hb, e1, e2, e3, dif_len]; simp
  refine ⟨ho, ?_⟩
  unfold resUnp
  rw [ho, if_pos rfl, e1, e3]
theorem unp_back {l : List Int} (h : okUnp l = true) : resPck (resUnp l) = l ∧ okL (resUnp l) = true ∧ resTor l = (l.length : Int) ∧ okB l = true := by
  have h2 := h
  unfold okUnp at h2
  simp only [Bool.and_eq_true, decide_eq_true_eq] at h2
  obtain ⟨hb, h3, h4⟩ := h2
  have e : resUnp l = sm (rdD l) := by unfold resUnp; rw [h]; rfl
  have e5 := okUnp_eq hb
  rw [h] at e5
  have e6 : pk (sm (rdD l)) = l := of_decide_eq_true e5.symm
  rw [e]
  refine ⟨?_, okL_sm _, ?_, hb⟩
  · unfold resPck; rw [okL_sm, if_pos rfl, e6]
  · unfold resTor; rw [hb, if_pos rfl, h3]
theorem cntW_cons (d : Int) (ds : List Int) (q : Nat) : cntW (d :: ds) q = cntW ds q + if wid (fold d) = q + 1 then 1 else 0 := by
  unfold cntW
  by_cases hw : wid (fold d) = q + 1
  · rw [if_pos hw]; simp [hw]
  · rw [if_neg hw]; simp [hw]
theorem cntW_sum (ds : List Int) : cntW ds 0 + cntW ds 1 + cntW ds 2 = ds.length ∧ cntW ds 0 + 2 * cntW ds 1 + 3 * cntW ds 2 = (pkD ds).length ∧ 0 ≤ cntW ds 0 ∧ 0 ≤ cntW ds 1 ∧ 0 ≤ cntW ds 2 := by
  induction ds with
  | nil => simp [cntW, pkD, pkN]
  | cons d ds ih =>
    have h := wid_pos (fold d)
    have e : (pkD (d :: ds)).length = wid (fold d) + (pkD ds).length := by unfold pkD; rw [List.map_cons, pkN_cons, List.length_append, byt_len]
    rw [cntW_cons, cntW_cons, cntW_cons, e, List.length_cons]
    have hw : wid (fold d) = 1 ∨ wid (fold d) = 2 ∨ wid (fold d) = 3 := by omega
    rcases hw with hw | hw | hw <;> rw [hw] <;> simp <;> omega
theorem vSum_is (xs : List Int) (v : Value) (w : World) (B : Nat) (h : Lst (Value.int .i64) w B v xs) (hx : ∀ x ∈ xs, -1000000000 ≤ x ∧ x ≤ 1000000000) (hn : xs.length ≤ 1048576) :
    Calls Try.prog 40 #[v] w fun e w' => e = .returned (.int .i64 xs.sum) ∧ w' = w := by
  have HBD : ∀ k : Nat, k ≤ xs.length → -1000000000 * (k : Int) ≤ (xs.take k).sum ∧ (xs.take k).sum ≤ 1000000000 * (k : Int) := by
    intro k
    induction k with
    | zero => intro _; simp
    | succ k ih =>
      intro hk
      obtain ⟨x, hx'⟩ := get_of_lt (l := xs) (k := k) (by omega)
      have := ih (by omega)
      have := hx x (List.mem_of_getElem? hx')
      rw [take_snoc hx', List.sum_append]
      simp
      omega
  obtain ⟨ao, cap, rfl, hcap, hmax, -, hc⟩ := h
  unfold maxLen at hmax
  have HB := Lib.hid HBD
  have HC := Lib.hid hc
  have HX := Lib.hid hx
  clear HBD hc hx
  go_enter Try.func40, Try.ntmps40
  go_wp2
  go_loop [3, 4] (fun q i => ∃ k : Nat, k ≤ xs.length ∧ i = .int .i64 k ∧ q = .int .i64 (xs.take k).sum) (fun _ i => xs.length - (intOf i).toNat)
  case atStart => exact ⟨0, Nat.zero_le _, rfl, by simp⟩
  case round =>
    obtain ⟨k, hk, rfl, rfl⟩ := hrel
    have hs := HB.out k hk
    by_cases hlt : k < xs.length
    · obtain ⟨x, hx⟩ := get_of_lt hlt
      obtain ⟨b, off, rfl, hb, hcell⟩ := HC.out k x hx
      have hbx := HX.out x (List.mem_of_getElem? hx)
      have HS := Lib.hid (show (xs.take (k + 1)).sum = (xs.take k).sum + x by rw [take_snoc hx, List.sum_append]; simp)
      have hi0 : (0 : Int) ≤ (k : Int) := by omega
      have hi1 : (k : Int) < (xs.length : Int) := by omega
      clear hx
      generalize (xs.take k).sum = s at *
      go_wp2
      go_round
      case rel => exact ⟨k + 1, by omega, by go_num, by rw [HS.out]⟩
      case measure => simp [intOf]; omega
    · have HE := Lib.hid (show (xs.take k).sum = xs.sum by rw [take_all hlt])
      go_wp2
      go_ret
      exact ⟨ret_int HE.out, rfl⟩

set_option maxRecDepth 100000 in
set_option maxHeartbeats 1000000 in
theorem implPckR (xs : List Int) (v : Value) (w : World) (B : Nat) (h : Lst (Value.int .i64) w B v xs) (hB : B ≤ w.heap.size) (hn : xs.length ≤ 1048576) (hk : okL xs = true) :
    Calls Try.prog 28 #[v] w fun e w' => ∃ g cap, e = .returned (.tuple #[.slice (some ⟨g, 0, none⟩) (pk xs).length cap, .bool true]) ∧ w'.ownsRow w.heap.size 3 1 (.slice (some ⟨g, 0, none⟩) (pk xs).length cap) (pk xs).length ((pk xs).map (Value.int .i64)) ∧ Below w.heap.size w w' := by
  have C := Lib.hid (implDif xs v w B h hB hn)
  have e2 : pk xs = pkD (dif xs) := rfl
  have e3 : resDif xs = dif xs := by unfold resDif; rw [hk]; rfl
  have hx := dif_okD hk
  have hl : (dif xs).length ≤ 24 := by rw [dif_len]; exact (okL_yes hk).2
  rw [e2]
  rw [hk, e3] at C
  clear e2 e3 hk h
  generalize dif xs = ds at *
  have HX := Lib.hid hx
  clear hx
  go_enter Try.func28, Try.ntmps28
  go_wp2_with fail
  refine C.out.mono ?_
  rintro e w1 ⟨v1, rfl, ho, hb⟩
  obtain ⟨ti, hi, hz0, hz1, hz2⟩ := info_parts infoInt
  obtain ⟨a1, c1, rfl, hcap, hmax, hnn, hc⟩ := ho.lst
  unfold maxLen at hmax
  have HC := Lib.hid hc
  have hrow0 := row_empty w1 (base := w1.heap.size) 3 1 (Nat.le_refl _)
  have hb0 : Below w1.heap.size w1 (w1.alloc (.cells #[] 3)) := (Below.refl _ _).alloc (Nat.le_refl _) _
  clear hc hnn C
  go_wp2
  go_loopw [6, 20] (fun o i wr => ∃ (k : Nat), k ≤ ds.length ∧ i = .int .i64 k ∧ wr.ownsRow w1.heap.size 3 1 o (pkD (ds.take k)).length ((pkD (ds.take k)).map (Value.int .i64)) ∧ (∃ g cap, o = .slice (some ⟨g, 0, none⟩) (pkD (ds.take k)).length cap) ∧ Below w1.heap.size w1 wr)
    (fun _ i _ => ds.length - (intOf i).toNat)
  case atStart => exact ⟨0, Nat.zero_le _, rfl, by simpa [pkD, pkN] using hrow0, ⟨w1.heap.size, 0, by simp [pkD, pkN]⟩, hb0⟩
  case round =>
    obtain ⟨k, hk, rfl, hrow, ⟨goo, capo, rfl⟩, hbl⟩ := hrel
    have hsz := hbl.size
    have hpl := pkD_lenk ds k
    by_cases hlt : k < ds.length
    case neg =>
      obtain rfl : k = ds.length := by omega
      rw [List.take_length] at *
      go_wp2
      go_ret2
      exact ⟨_, _, rfl, Go.Joins.ownsRow_le hrow hb.size, hb.trans (hbl.mono hb.size)⟩
    obtain ⟨d, hd⟩ := get_of_lt hlt
    have hok := HX.out d (List.mem_of_getElem? hd)
    obtain ⟨b, off, rfl, hb1, hcd⟩ := HC.out k d hd
    have hcd' := cellOf hbl (by omega) hcd
    have HS := Lib.hid (pkD_step hd)
    have hi0 : (0 : Int) ≤ (k : Int) := by omega
    have hi1 : (k : Int) < (ds.length : Int) := by omega
    have HRW := Lib.hid hrow
    have hwl := byt_len (fold d)
    have hwp := wid_pos (fold d)
    generalize pkD (ds.take k) = cs at *
    clear hd hcd hrow
    have D := Lib.hid (implBytes d wr hok)
    go_wp2_with fail
    refine D.out.mono ?_
    rintro e w2 ⟨v2, rfl, hr2, hb2⟩
    generalize hbs : byt (fold d) = bs at *
    have rw2 := row_below HRW.out hb2
    have hls := (Own.of_row (n := bs.length) (xs := bs) hr2).lst
    have z2 := hb2.size
    have HBS := Lib.hid hbs
    clear hbs
    go_wp2_with (at_builtin; refine wpList_append_src _ rfl _ _ 22 rfl w1.heap.size 3 ti (.int .i64 0) 8 Try.underlying22 hi hz0 hz1 hz2 rfl _ cs.length (cs.map (Value.int .i64)) rfl rw2 _ bs.length (bs.map (Value.int .i64)) rfl (src_ints hls) (by unfold maxLen; omega) (by omega) (by omega) ?_; intro v3 w3 hr3 hg3 _)
    have b3 : Below w1.heap.size wr w3 := (hb2.mono hsz).trans (Below.grown (Below.refl _ w2) hg3 (by omega) (fun q hq => (rw2.lt q hq).1))
    have hrow3 : w3.ownsRow w1.heap.size 3 1 v3 (cs ++ bs).length ((cs ++ bs).map (Value.int .i64)) := by simpa using hr3
    clear hr3 hg3 rw2 hls
    go_wp2
    go_roundw
    case rel =>
      have hw9 : 0 < (cs ++ bs).length := by rw [List.length_append]; omega
      refine ⟨k + 1, by omega, by go_num, by rw [HS.out]; exact hrow3, ?_, hbl.trans b3⟩
      rw [HS.out]
      rcases hrow3.2 with ⟨_, h0⟩ | ⟨g, cap, cur, h', _⟩
      · omega
      · exact ⟨g, cap, h'⟩
    case measure => simp [intOf]; omega
set_option maxHeartbeats 400000 in
theorem drawPckR (w : World) (B : Nat) (v : Value) (h : CodeArg w B v) :
    Calls Try.prog 38 #[v] w fun e w' => ∃ (v' : Value) (xs : List Int), e = .returned v' ∧ xs.length ≤ 200 ∧ w'.ownsRow w.heap.size 3 1 v' xs.length (xs.map (Value.int .i64)) ∧ Below w.heap.size w w' := by
  obtain ⟨h0, ao, n, cap, rfl, h2, h3⟩ := h
  have hcu := Lib.hid (cur_new w B ao n cap h0 h2 h3)
  clear h3
  have D : Calls Try.prog 43 #[.slice ao n cap] w fun e w' => ∃ (v' : Value) (xs : List Int), e = .returned v' ∧ xs.length ≤ 200 ∧ w'.ownsRow w.heap.size 3 1 v' xs.length (xs.map (Value.int .i64)) ∧ Below w.heap.size w w' := by
    go_enter Try.func43, Try.ntmps43
    go_wp2_with fail
    refine (cur_samples _ B w.heap.size 0 hcu.out (by omega)).mono ?_
    rintro e w1 ⟨v1, xs, rfl, hl, hS⟩
    obtain ⟨a1, c1, rfl⟩ := hS.2.1
    have HS := Lib.hid hS
    clear hS
    go_wp2
    go_ret
    exact ⟨_, xs, rfl, by omega, Go.Joins.ownsRow_le HS.out.1 (by simp), grown_below HS.out.2.2.2.2⟩
  go_enter Try.func38, Try.ntmps38
  go_wp2_with fail
  refine D.mono ?_
  rintro e w1 ⟨v1, xs, rfl, hD⟩
  obtain ⟨a1, c1, rfl⟩ := row_form hD.2.1
  go_wp2
  go_ret
  exact ⟨_, xs, rfl, hD⟩
end Go.Proofs.Ytkgohnlljbamlaa
