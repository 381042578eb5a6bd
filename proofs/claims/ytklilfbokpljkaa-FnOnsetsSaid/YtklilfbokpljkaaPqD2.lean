/- Picks: pairs, by the specification. -/
import Derived.Test.YtklilfbokpljkaaPqT
import Derived.Test.YtklilfbokpljkaaIns
import Derived.Test.YtklilfbokpljkaaAcc
import Derived.Test.YtklilfbokpljkaaIntSS
import Derived.IntWalk
namespace Go.Proofs.Ytklilfbokpljkaa
open Go.ChangeShapes Go.WideShapes Go.ChangeAt Go.RowKit Go.ChangeMaps Go.Sort Go.Shelf
set_option linter.unusedSimpArgs false
set_option linter.unusedVariables false

def slV2 (b : Nat) : Value := .slice (some ⟨b, 0, none⟩) 2 2
theorem Bx.grown2 {w w' : World} {row : Option Nat} {b : Nat} {cs : List Value} (h : Bx w b cs) (hg : w.grownBy w' row) (hne : some b ≠ row) : Bx w' b cs := h.grown hg hne
/-- Rows of two numbers, each in a block of its own. -/
structure Rows2 (w : World) (base g : Nat) (ll : List (List Int)) (bs : List Nat) : Prop where
  len : bs.length = ll.length
  nodup : bs.Nodup
  low : ∀ b ∈ bs, base ≤ b
  ne : g ∉ bs
  two : ∀ r ∈ ll, r.length = 2
  at_ : ∀ (i b : Nat) (r : List Int), bs[i]? = some b → ll[i]? = some r → Bx w b (r.map (Value.int .i64))
theorem Rows2.nil (w : World) (base g : Nat) : Rows2 w base g [] [] := ⟨rfl, List.nodup_nil, by simp, by simp, by simp, by simp⟩
theorem Rows2.below {w w' : World} {base g : Nat} {ll : List (List Int)} {bs : List Nat} (h : Rows2 w base g ll bs) (hb : Below w.heap.size w w') : Rows2 w' base g ll bs :=
  ⟨h.len, h.nodup, h.low, h.ne, h.two, fun i b p h1 h2 => (h.at_ i b p h1 h2).below hb⟩
theorem Rows2.grown {w w' : World} {base g : Nat} {ll : List (List Int)} {bs : List Nat} {row : Option Nat} (h : Rows2 w base g ll bs) (hg : w.grownBy w' row) (hr : ∀ b ∈ bs, some b ≠ row) : Rows2 w' base g ll bs :=
  ⟨h.len, h.nodup, h.low, h.ne, h.two, fun i b p h1 h2 => (h.at_ i b p h1 h2).grown hg (hr b (List.mem_of_getElem? h1))⟩
theorem Rows2.lt {w : World} {base g : Nat} {ll : List (List Int)} {bs : List Nat} (h : Rows2 w base g ll bs) : ∀ b ∈ bs, b < w.heap.size := by
  intro b hb
  obtain ⟨i, hi⟩ := List.mem_iff_getElem?.1 hb
  obtain ⟨p, hp⟩ := get_of_lt (l := ll) (k := i) (by rw [← h.len]; exact (List.getElem?_eq_some_iff.1 hi).1)
  exact (h.at_ i b p hi hp).1.1
theorem Rows2.snoc {w : World} {base g g7 bT : Nat} {ll : List (List Int)} {bs : List Nat} {r : List Int} (h : Rows2 w base g ll bs) (h2 : r.length = 2) (hb : Bx w bT (r.map (Value.int .i64))) (hlt : ∀ b ∈ bs, b < bT) (hbase : base ≤ bT) (hg7 : g7 ≠ bT) (hgn : g7 ∉ bs) :
    Rows2 w base g7 (ll ++ [r]) (bs ++ [bT]) := by
  have hl := h.len
  refine ⟨by simp [hl], ?_, fun b hb => ?_, fun hb => ?_, fun q hq => ?_, fun i b q h1 h2 => ?_⟩
  · rw [List.nodup_append]
    exact ⟨h.nodup, by simp, fun a ha b hb => by have := hlt a ha; simp only [List.mem_singleton] at hb; omega⟩
  · rcases List.mem_append.1 hb with q | q
    · exact h.low b q
    · simp only [List.mem_singleton] at q; omega
  · rcases List.mem_append.1 hb with q | q
    · exact hgn q
    · simp only [List.mem_singleton] at q; exact hg7 q
  · rcases List.mem_append.1 hq with p | p
    · exact h.two q p
    · rw [List.mem_singleton.1 p]; exact h2
  · by_cases hi : i < bs.length
    · rw [List.getElem?_append_left hi] at h1
      rw [List.getElem?_append_left (by omega)] at h2
      exact h.at_ i b q h1 h2
    · rw [List.getElem?_append_right (by omega)] at h1
      rw [List.getElem?_append_right (by omega)] at h2
      have e : i - bs.length = 0 := by
        have := (List.getElem?_eq_some_iff.1 h1).1
        simp only [List.length_singleton] at this
        omega
      rw [e] at h1
      rw [← hl, e] at h2
      simp only [List.getElem?_cons_zero, Option.some.injEq] at h1 h2
      subst h1 h2
      exact hb
theorem Rows2.sso {w : World} {L g n cap : Nat} {ll : List (List Int)} {bs : List Nat} (h : Rows2 w L g ll bs) (hgl : L ≤ g ∧ g < w.heap.size) (hOw : Own id w L w.heap.size (.slice (some ⟨g, 0, none⟩) n cap) (bs.map slV2)) :
    SSO w L w.heap.size (.slice (some ⟨g, 0, none⟩) n cap) ll := by
  refine ⟨bs.map slV2, bs, g, ?_, ?_, h.nodup, h.ne, hgl, ?_, fun b hb => ⟨h.low b hb, ?_⟩, fun i u ys b hu hy hb => ?_⟩
  · rw [List.length_map]; exact h.len
  · exact h.len
  · obtain ⟨ao', cap', g1, g2, g3, gn, g4⟩ := hOw
    refine ⟨ao', cap', g1, g2, g3, gn, fun i x hx => ?_⟩
    obtain ⟨b, off, e1, e0, e2, e3, e4⟩ := g4 i x hx
    have : b = g := by subst e1; simp only [Value.slice.injEq, Option.some.injEq, Addr.mk.injEq] at g1; exact g1.1.1.symm
    exact ⟨b, off, e1, by omega, by omega, e3, e4⟩
  · exact h.lt b hb
  · rw [List.getElem?_map, hb] at hu
    cases hu
    have hbx := h.at_ i b ys hb hy
    have h2 := h.two ys (List.mem_of_getElem? hy)
    refine ⟨some ⟨b, 0, none⟩, 2, by rw [h2]; rfl, by omega, by simp [maxLen], by simp, fun q x hx => ⟨b, 0, rfl, Nat.le_refl _, Nat.lt_succ_self _, ?_, hbx.1.2 _⟩⟩
    rw [Nat.zero_add]
    refine hbx.2 q _ ?_
    rw [List.getElem?_map, hx]; rfl
theorem infoInts3 : (Try.prog.info? 43).map (fun i => (i.zero, i.size, i.bytes)) = some (some (.slice none 0 0), 1, 24) := by kernel_rfl
noncomputable def okPr (xs : List GPick) (st : Int) : Bool := goodP xs && inB st 1 99
noncomputable def resPr (xs : List GPick) (st : Int) : List (List Int) := if okPr xs st = true then pairsP xs st xs.length else []
theorem pr_no {xs : List GPick} {st : Int} (h : okPr xs st = false) : resPr xs st = [] := by unfold resPr; rw [h]; rfl
theorem pr_yes {xs : List GPick} {st : Int} (h : okPr xs st = true) : resPr xs st = pairsP xs st xs.length := by unfold resPr; rw [if_pos h]
theorem totSS_two : ∀ {l : List (List Int)}, (∀ r ∈ l, r.length = 2) → totSS l = 2 * l.length
  | [], _ => rfl
  | r :: l, h => by
    rw [totSS, totSS_two (fun q hq => h q (List.mem_cons_of_mem _ hq)), h r (List.mem_cons_self ..), List.length_cons]
    omega
theorem pairs_two {xs : List GPick} {st : Int} {k : Nat} : ∀ r ∈ pairsP xs st k, r.length = 2 := by
  intro r hr
  unfold pairsP at hr
  obtain ⟨p, _, hr⟩ := List.mem_flatMap.1 hr
  unfold rowP at hr
  obtain ⟨s, _, rfl⟩ := List.mem_map.1 hr
  rfl
theorem resPr_len (xs : List GPick) (st : Int) : totSS (resPr xs st) + (resPr xs st).length ≤ 1048576 := by
  unfold resPr
  split
  · rename_i hk
    unfold okPr at hk
    rw [Bool.and_eq_true] at hk
    rw [totSS_two pairs_two]
    have h1 := pairsP_len xs st xs.length
    have h2 := (goodP_yes hk.1).1
    have h3 : xs.length * xs.length ≤ 12 * 12 := Nat.mul_le_mul h2 h2
    omega
  · simp [totSS]
theorem sel_parts {xs : List GPick} {st wv : Int} {p : GPick} (h : selP xs st wv p = true) : curB xs p.pId = true ∧ p.pStation = st ∧ p.pWave = wv := by
  unfold selP at h
  rw [Bool.and_eq_true, Bool.and_eq_true, decide_eq_true_eq, decide_eq_true_eq] at h
  exact h
theorem sel_mk {xs : List GPick} {st wv : Int} {p : GPick} (h1 : curB xs p.pId = true) (h2 : p.pStation = st) (h3 : p.pWave = wv) : selP xs st wv p = true := by
  unfold selP; rw [h1, decide_eq_true h2, decide_eq_true h3]; rfl
def midP (xs : List GPick) (st : Int) (i : Nat) (p : GPick) (k : Nat) : List (List Int) := pairsP xs st i ++ (if selP xs st 0 p = true then rowP xs st p k else [])
theorem mid_zero (xs : List GPick) (st : Int) (i : Nat) (p : GPick) : midP xs st i p 0 = pairsP xs st i := by unfold midP; split <;> simp [rowP_zero]
theorem mid_end {xs : List GPick} {st : Int} {i : Nat} {p : GPick} (hp : xs[i]? = some p) : midP xs st i p xs.length = pairsP xs st (i + 1) := by
  unfold midP
  by_cases h : selP xs st 0 p = true
  · rw [if_pos h, pairsP_yes hp h]
  · rw [if_neg h, List.append_nil, pairsP_no hp (Bool.eq_false_iff.2 h)]
theorem mid_yes {xs : List GPick} {st : Int} {i k : Nat} {p s : GPick} (hs : xs[k]? = some s) (h0 : selP xs st 0 p = true) (h1 : selP xs st 1 s = true) (h2 : befP p s = true) : midP xs st i p (k + 1) = midP xs st i p k ++ [[p.pId, s.pId]] := by
  unfold midP
  rw [if_pos h0, if_pos h0, rowP_yes hs h1 h2, List.append_assoc]
theorem mid_no {xs : List GPick} {st : Int} {i k : Nat} {p s : GPick} (hs : xs[k]? = some s) (h : ¬ (selP xs st 0 p = true ∧ selP xs st 1 s = true ∧ befP p s = true)) : midP xs st i p (k + 1) = midP xs st i p k := by
  unfold midP
  by_cases h0 : selP xs st 0 p = true
  · rw [if_pos h0, if_pos h0, rowP_no hs (fun g => h ⟨h0, g.1, g.2⟩)]
  · rw [if_neg h0, if_neg h0]
theorem mid_len {xs : List GPick} {st : Int} {i k : Nat} {p : GPick} (hl : xs.length ≤ 12) (hi : i ≤ 12) : (midP xs st i p k).length ≤ 156 := by
  unfold midP
  rw [List.length_append]
  have h1 := pairsP_len xs st i
  have h3 : i * xs.length ≤ 12 * 12 := Nat.mul_le_mul hi hl
  have h4 := rowP_len xs st p k
  split
  · omega
  · simp; omega
set_option maxRecDepth 100000 in
set_option maxHeartbeats 8000000 in
theorem specPr (xs : List GPick) (v : Value) (st : Int) (w : World) (B : Nat) (h : PickL w B v xs) (hB : B ≤ w.heap.size) (hn : szsPick xs ≤ 1048576) (hw : ∀ s ∈ xs, wfPick s) (_ : I64 st) :
    Calls Try.prog 85 #[v, .int .i64 st] w fun e w' => ∃ v', e = .returned (.tuple #[v', .bool (okPr xs st)]) ∧ SSO w' w.heap.size w'.heap.size v' (resPr xs st) ∧ Below w.heap.size w w' := by
  have hl := Nat.le_trans (szsPick_len xs) hn
  have N1 := (Below.refl w.heap.size w).alloc (Nat.le_refl _) (.cells #[] 43)
  have hrow0 := row_empty w (base := w.heap.size) 43 1 (Nat.le_refl _)
  have h1 := h.below (N1.mono hB)
  generalize hok : okPr xs st = ok
  generalize hres : resPr xs st = res
  have HRS := Lib.hid hres
  cases hg : goodP xs with
  | false =>
    have C := Lib.hid (specGoodP xs v false _ B h1 (Nat.le_trans hB N1.size) hl hg)
    have e1 : ok = false := by rw [← hok]; unfold okPr; rw [hg]; rfl
    subst e1
    have e2 : res = [] := by rw [← hres]; exact pr_no hok
    subst e2
    clear hg hok hres
    obtain ⟨ao, cap, rfl⟩ := h.form
    go_enter Try.func85, Try.ntmps85
    go_wp2_with fail
    refine C.out.mono ?_
    rintro e w1 ⟨rfl, hb⟩
    have C1 := N1.trans (hb.mono N1.size)
    have hr1 := row_below hrow0 hb
    have hgl := hr1.lt w.heap.size rfl
    go_wp2
    go_ret2
    exact ⟨_, rfl, Rows2.sso (Rows2.nil _ _ _) hgl (Own.of_row (xs := ([] : List Value)) (by simpa using hr1)), C1⟩
  | true =>
  have C := Lib.hid (specGoodP xs v true _ B h1 (Nat.le_trans hB N1.size) hl hg)
  cases hin : inB st 1 99 with
  | false =>
    have HIN := Lib.hid hin
    have e1 : ok = false := by rw [← hok]; unfold okPr; rw [hin, Bool.and_false]
    subst e1
    have e2 : res = [] := by rw [← hres]; exact pr_no hok
    subst e2
    clear hg hok hres hin
    obtain ⟨ao, cap, rfl⟩ := h.form
    go_enter Try.func85, Try.ntmps85
    go_wp2_with fail
    refine C.out.mono ?_
    rintro e w1 ⟨rfl, hb⟩
    have C1 := N1.trans (hb.mono N1.size)
    have hr1 := row_below hrow0 hb
    have hgl := hr1.lt w.heap.size rfl
    go_wp2_with fail
    refine (specIn _ _ _ false _ HIN.out).mono ?_
    rintro e w2 ⟨rfl, rfl⟩
    go_wp2
    go_ret2
    exact ⟨_, rfl, Rows2.sso (Rows2.nil _ _ _) hgl (Own.of_row (xs := ([] : List Value)) (by simpa using hr1)), C1⟩
  | true =>
  have HIN := Lib.hid hin
  have e1 : ok = true := by rw [← hok]; unfold okPr; rw [hg, hin]; rfl
  subst e1
  have HRES : Hid (res = pairsP xs st xs.length) := Lib.hid (by rw [← hres]; exact pr_yes hok)
  have HOK := Lib.hid (goodP_yes hg)
  have hl12 := (goodP_yes hg).1
  have HL := Lib.hid h
  clear hg hok hres hin h1 HRS
  obtain ⟨ao, cap, rfl, hcap, hmax, hnn, hc⟩ := h
  unfold maxLen at hmax
  have HC := Lib.hid hc
  clear hc hnn
  obtain ⟨ti, hi, hz0, hz1, hz2⟩ := info_parts infoInts3
  go_enter Try.func85, Try.ntmps85
  go_wp2_with fail
  refine C.out.mono ?_
  rintro e w1 ⟨rfl, hb⟩
  have C1 := N1.trans (hb.mono N1.size)
  have hr1 := row_below hrow0 hb
  go_wp2_with fail
  refine (specIn _ _ _ true _ HIN.out).mono ?_
  rintro e w2 ⟨rfl, rfl⟩
  go_wp2
  go_loopw [6, 7] (fun o i wr => ∃ (i0 n g cap : Nat) (ll : List (List Int)) (bs : List Nat), i0 ≤ xs.length ∧ i = .int .i64 i0 ∧ o = .slice (some ⟨g, 0, none⟩) n cap ∧ Hid (ll = pairsP xs st i0) ∧ Hid (ll.length = n) ∧ wr.ownsRow w.heap.size 43 1 (.slice (some ⟨g, 0, none⟩) n cap) n (bs.map slV2) ∧ Hid (Rows2 wr w.heap.size g ll bs) ∧ Below w.heap.size w wr)
    (fun _ i _ => xs.length - (intOf i).toNat)
  case atStart => exact ⟨0, 0, _, 0, [], [], Nat.zero_le _, rfl, rfl, Lib.hid (pairsP_zero xs st).symm, Lib.hid rfl, hr1, Lib.hid (Rows2.nil _ _ _), C1⟩
  case round =>
    obtain ⟨i0, n, g, ocap, ll, bs, hi0, rfl, rfl, HO, HN, hrow, HRP, hbl⟩ := hrel
    have hsz := hbl.size
    by_cases hlt : i0 < xs.length
    case neg =>
      obtain rfl : i0 = xs.length := by omega
      have HX : Hid (ll = res) := Lib.hid (by rw [HO.out, HRES.out])
      have HSS := Lib.hid (Rows2.sso HRP.out (hrow.lt g rfl) (Own.of_row (by simpa using hrow)))
      go_wp2
      go_ret2
      exact ⟨_, rfl, by rw [← HX.out]; exact HSS.out, hbl⟩
    obtain ⟨p, hp⟩ := get_of_lt hlt
    obtain ⟨b, off, rfl, hb', hcell⟩ := HC.out i0 p hp
    have HPc := Lib.hid hcell
    have HP := Lib.hid hp
    have hi1 : (i0 : Int) < (xs.length : Int) := by omega
    have hi2 : (0 : Int) ≤ (i0 : Int) := by omega
    clear hp hcell
    go_wp2
    go_loopw [6, 8] (fun o k wr => ∃ (k0 n g cap : Nat) (ll : List (List Int)) (bs : List Nat), k0 ≤ xs.length ∧ k = .int .i64 k0 ∧ o = .slice (some ⟨g, 0, none⟩) n cap ∧ Hid (ll = midP xs st i0 p k0) ∧ Hid (ll.length = n) ∧ wr.ownsRow w.heap.size 43 1 (.slice (some ⟨g, 0, none⟩) n cap) n (bs.map slV2) ∧ Hid (Rows2 wr w.heap.size g ll bs) ∧ Below w.heap.size w wr)
      (fun _ k _ => xs.length - (intOf k).toNat)
    case atStart => exact ⟨0, n, g, ocap, ll, bs, Nat.zero_le _, rfl, rfl, Lib.hid (by rw [mid_zero]; exact HO.out), HN, hrow, HRP, hbl⟩
    case round =>
      clear hrow HRP HO HN hbl hsz
      obtain ⟨k0, n, g, ocap, ll, bs, hk0, rfl, rfl, HO, HN, hrow, HRP, hbl⟩ := hrel
      have hsz := hbl.size
      by_cases hlt2 : k0 < xs.length
      case neg =>
        obtain rfl : k0 = xs.length := by omega
        have HO2 : Hid (ll = pairsP xs st (i0 + 1)) := Lib.hid (by rw [HO.out]; exact mid_end HP.out)
        go_wp2
        go_roundw
        case rel => exact ⟨i0 + 1, n, g, ocap, ll, bs, by omega, by go_num, rfl, HO2, HN, hrow, HRP, hbl⟩
        case measure => simp [intOf]; omega
      obtain ⟨s, hs⟩ := get_of_lt hlt2
      obtain ⟨b2, off2, e9, -, hcell2⟩ := HC.out k0 s hs
      simp only [Option.some.injEq, Addr.mk.injEq, and_true] at e9
      obtain ⟨rfl, rfl⟩ := e9
      have c0 : wr.cell? ⟨b, off + i0 * 7, none⟩ = some (.int .i64 p.pId) := cellOf hbl (by omega) (HPc.out 0 _ rfl)
      have c1 : wr.cell? ⟨b, off + i0 * 7 + 1, none⟩ = some (.int .i64 p.pStation) := cellOf hbl (by omega) (HPc.out 1 _ rfl)
      have c2 : wr.cell? ⟨b, off + i0 * 7 + 2, none⟩ = some (.int .i64 p.pWave) := cellOf hbl (by omega) (HPc.out 2 _ rfl)
      have c3 : wr.cell? ⟨b, off + i0 * 7 + 3, none⟩ = some (.int .i64 p.pTick) := cellOf hbl (by omega) (HPc.out 3 _ rfl)
      have c4 : wr.cell? ⟨b, off + i0 * 7 + 4, none⟩ = some (.int .i64 p.pError) := cellOf hbl (by omega) (HPc.out 4 _ rfl)
      have c5 : wr.cell? ⟨b, off + i0 * 7 + 5, none⟩ = some (.int .i64 p.pBy) := cellOf hbl (by omega) (HPc.out 5 _ rfl)
      have c6 : wr.cell? ⟨b, off + i0 * 7 + 6, none⟩ = some (.int .i64 p.pAfter) := cellOf hbl (by omega) (HPc.out 6 _ rfl)
      have d0 : wr.cell? ⟨b, off + k0 * 7, none⟩ = some (.int .i64 s.pId) := cellOf hbl (by omega) (hcell2 0 _ rfl)
      have d1 : wr.cell? ⟨b, off + k0 * 7 + 1, none⟩ = some (.int .i64 s.pStation) := cellOf hbl (by omega) (hcell2 1 _ rfl)
      have d2 : wr.cell? ⟨b, off + k0 * 7 + 2, none⟩ = some (.int .i64 s.pWave) := cellOf hbl (by omega) (hcell2 2 _ rfl)
      have d3 : wr.cell? ⟨b, off + k0 * 7 + 3, none⟩ = some (.int .i64 s.pTick) := cellOf hbl (by omega) (hcell2 3 _ rfl)
      have d4 : wr.cell? ⟨b, off + k0 * 7 + 4, none⟩ = some (.int .i64 s.pError) := cellOf hbl (by omega) (hcell2 4 _ rfl)
      have d5 : wr.cell? ⟨b, off + k0 * 7 + 5, none⟩ = some (.int .i64 s.pBy) := cellOf hbl (by omega) (hcell2 5 _ rfl)
      have d6 : wr.cell? ⟨b, off + k0 * 7 + 6, none⟩ = some (.int .i64 s.pAfter) := cellOf hbl (by omega) (hcell2 6 _ rfl)
      have HS := Lib.hid hs
      have hk1 : (k0 : Int) < (xs.length : Int) := by omega
      have hk2 : (0 : Int) ≤ (k0 : Int) := by omega
      clear hs hcell2
      have HS0 : Hid (∀ w', Below wr.heap.size wr w' → Below wr.heap.size wr w' ∧ w'.cell? ⟨b, off + i0 * 7, none⟩ = some (.int .i64 p.pId) ∧ w'.cell? ⟨b, off + i0 * 7 + 1, none⟩ = some (.int .i64 p.pStation) ∧ w'.cell? ⟨b, off + i0 * 7 + 2, none⟩ = some (.int .i64 p.pWave) ∧ w'.cell? ⟨b, off + i0 * 7 + 3, none⟩ = some (.int .i64 p.pTick) ∧ w'.cell? ⟨b, off + i0 * 7 + 4, none⟩ = some (.int .i64 p.pError) ∧ w'.cell? ⟨b, off + i0 * 7 + 5, none⟩ = some (.int .i64 p.pBy) ∧ w'.cell? ⟨b, off + i0 * 7 + 6, none⟩ = some (.int .i64 p.pAfter) ∧ w'.cell? ⟨b, off + k0 * 7, none⟩ = some (.int .i64 s.pId) ∧ w'.cell? ⟨b, off + k0 * 7 + 1, none⟩ = some (.int .i64 s.pStation) ∧ w'.cell? ⟨b, off + k0 * 7 + 2, none⟩ = some (.int .i64 s.pWave) ∧ w'.cell? ⟨b, off + k0 * 7 + 3, none⟩ = some (.int .i64 s.pTick) ∧ w'.cell? ⟨b, off + k0 * 7 + 4, none⟩ = some (.int .i64 s.pError) ∧ w'.cell? ⟨b, off + k0 * 7 + 5, none⟩ = some (.int .i64 s.pBy) ∧ w'.cell? ⟨b, off + k0 * 7 + 6, none⟩ = some (.int .i64 s.pAfter)) := Lib.hid (fun w' qq => ⟨qq, cellOf qq (cell_of_lt c0) c0, cellOf qq (cell_of_lt c1) c1, cellOf qq (cell_of_lt c2) c2, cellOf qq (cell_of_lt c3) c3, cellOf qq (cell_of_lt c4) c4, cellOf qq (cell_of_lt c5) c5, cellOf qq (cell_of_lt c6) c6, cellOf qq (cell_of_lt d0) d0, cellOf qq (cell_of_lt d1) d1, cellOf qq (cell_of_lt d2) d2, cellOf qq (cell_of_lt d3) d3, cellOf qq (cell_of_lt d4) d4, cellOf qq (cell_of_lt d5) d5, cellOf qq (cell_of_lt d6) d6⟩)
      go_wp2
      go_region_held3 (fun w' => Below wr.heap.size wr w' ∧ w'.cell? ⟨b, off + i0 * 7, none⟩ = some (.int .i64 p.pId) ∧ w'.cell? ⟨b, off + i0 * 7 + 1, none⟩ = some (.int .i64 p.pStation) ∧ w'.cell? ⟨b, off + i0 * 7 + 2, none⟩ = some (.int .i64 p.pWave) ∧ w'.cell? ⟨b, off + i0 * 7 + 3, none⟩ = some (.int .i64 p.pTick) ∧ w'.cell? ⟨b, off + i0 * 7 + 4, none⟩ = some (.int .i64 p.pError) ∧ w'.cell? ⟨b, off + i0 * 7 + 5, none⟩ = some (.int .i64 p.pBy) ∧ w'.cell? ⟨b, off + i0 * 7 + 6, none⟩ = some (.int .i64 p.pAfter) ∧ w'.cell? ⟨b, off + k0 * 7, none⟩ = some (.int .i64 s.pId) ∧ w'.cell? ⟨b, off + k0 * 7 + 1, none⟩ = some (.int .i64 s.pStation) ∧ w'.cell? ⟨b, off + k0 * 7 + 2, none⟩ = some (.int .i64 s.pWave) ∧ w'.cell? ⟨b, off + k0 * 7 + 3, none⟩ = some (.int .i64 s.pTick) ∧ w'.cell? ⟨b, off + k0 * 7 + 4, none⟩ = some (.int .i64 s.pError) ∧ w'.cell? ⟨b, off + k0 * 7 + 5, none⟩ = some (.int .i64 s.pBy) ∧ w'.cell? ⟨b, off + k0 * 7 + 6, none⟩ = some (.int .i64 s.pAfter))
        ((refine HS0.out _ ?_; repeat (first | with_reducible exact Below.refl _ _ | refine Below.drew ?_ | refine Below.alloc ?_ (by first | omega | (simp; done) | (simp; omega)) _ | refine Below.setCell ?_ (by first | omega | (simp; done) | (simp; omega)) _)))
        (fail)
      · have bP : Bx (((wr.alloc (.cells #[.int .i64 p.pId, .int .i64 p.pStation, .int .i64 p.pWave, .int .i64 p.pTick, .int .i64 p.pError, .int .i64 p.pBy, .int .i64 p.pAfter] 76)).alloc (.cells #[.int .i64 s.pId, .int .i64 s.pStation, .int .i64 s.pWave, .int .i64 s.pTick, .int .i64 s.pError, .int .i64 s.pBy, .int .i64 s.pAfter] 76)).drew) (wr.heap.size) (encPick p) := (Bx.new wr (encPick p) 76).alloc _
        have bS : Bx (((wr.alloc (.cells #[.int .i64 p.pId, .int .i64 p.pStation, .int .i64 p.pWave, .int .i64 p.pTick, .int .i64 p.pError, .int .i64 p.pBy, .int .i64 p.pAfter] 76)).alloc (.cells #[.int .i64 s.pId, .int .i64 s.pStation, .int .i64 s.pWave, .int .i64 s.pTick, .int .i64 s.pError, .int .i64 s.pBy, .int .i64 s.pAfter] 76)).drew) (wr.heap.size + 1) (encPick s) := Bx.new1 wr (.cells #[.int .i64 p.pId, .int .i64 p.pStation, .int .i64 p.pWave, .int .i64 p.pTick, .int .i64 p.pError, .int .i64 p.pBy, .int .i64 p.pAfter] 76) (encPick s) 76
        have KQ : Below wr.heap.size wr (((wr.alloc (.cells #[.int .i64 p.pId, .int .i64 p.pStation, .int .i64 p.pWave, .int .i64 p.pTick, .int .i64 p.pError, .int .i64 p.pBy, .int .i64 p.pAfter] 76)).alloc (.cells #[.int .i64 s.pId, .int .i64 s.pStation, .int .i64 s.pWave, .int .i64 s.pTick, .int .i64 s.pError, .int .i64 s.pBy, .int .i64 s.pAfter] 76)).drew) := (((Below.refl _ wr).alloc (Nat.le_refl _) _).alloc (by first | omega | (simp; done) | (simp; omega)) _).drew
        generalize ((wr.alloc (.cells #[.int .i64 p.pId, .int .i64 p.pStation, .int .i64 p.pWave, .int .i64 p.pTick, .int .i64 p.pError, .int .i64 p.pBy, .int .i64 p.pAfter] 76)).alloc (.cells #[.int .i64 s.pId, .int .i64 s.pStation, .int .i64 s.pWave, .int .i64 s.pTick, .int .i64 s.pError, .int .i64 s.pBy, .int .i64 s.pAfter] 76)).drew = wq at *
        have hblq : Below w.heap.size w wq := hbl.trans (KQ.mono hsz)
        have hrowq := row_below hrow KQ
        have HRPq := Lib.hid (HRP.out.below KQ)
        have HLq := Lib.hid (HL.out.below (hblq.mono hB))
        have q0 : wq.cell? ⟨wr.heap.size, 0, none⟩ = some (.int .i64 p.pId) := bP.2 0 _ rfl
        have q1 : wq.cell? ⟨wr.heap.size, 1, none⟩ = some (.int .i64 p.pStation) := bP.2 1 _ rfl
        have q2 : wq.cell? ⟨wr.heap.size, 2, none⟩ = some (.int .i64 p.pWave) := bP.2 2 _ rfl
        have q3 : wq.cell? ⟨wr.heap.size, 3, none⟩ = some (.int .i64 p.pTick) := bP.2 3 _ rfl
        have q4 : wq.cell? ⟨wr.heap.size, 4, none⟩ = some (.int .i64 p.pError) := bP.2 4 _ rfl
        have q5 : wq.cell? ⟨wr.heap.size, 5, none⟩ = some (.int .i64 p.pBy) := bP.2 5 _ rfl
        have q6 : wq.cell? ⟨wr.heap.size, 6, none⟩ = some (.int .i64 p.pAfter) := bP.2 6 _ rfl
        have t0 : wq.cell? ⟨wr.heap.size + 1, 0, none⟩ = some (.int .i64 s.pId) := bS.2 0 _ rfl
        have t1 : wq.cell? ⟨wr.heap.size + 1, 1, none⟩ = some (.int .i64 s.pStation) := bS.2 1 _ rfl
        have t2 : wq.cell? ⟨wr.heap.size + 1, 2, none⟩ = some (.int .i64 s.pWave) := bS.2 2 _ rfl
        have t3 : wq.cell? ⟨wr.heap.size + 1, 3, none⟩ = some (.int .i64 s.pTick) := bS.2 3 _ rfl
        have t4 : wq.cell? ⟨wr.heap.size + 1, 4, none⟩ = some (.int .i64 s.pError) := bS.2 4 _ rfl
        have t5 : wq.cell? ⟨wr.heap.size + 1, 5, none⟩ = some (.int .i64 s.pBy) := bS.2 5 _ rfl
        have t6 : wq.cell? ⟨wr.heap.size + 1, 6, none⟩ = some (.int .i64 s.pAfter) := bS.2 6 _ rfl
        have zq := KQ.size
        clear hrow HRP bP bS
        by_cases a1 : p.pStation = st
        case neg =>
          have e1 : (p.pStation == st) = false := by simp [a1]
          have HO2 : Hid (ll = midP xs st i0 p (k0 + 1)) := Lib.hid (by rw [HO.out]; exact (mid_no HS.out (fun g => a1 (sel_parts g.1).2.1)).symm)
          clear a1
          go_wp2
          go_roundw
          case rel => exact ⟨k0 + 1, n, g, ocap, ll, bs, by omega, by go_num, rfl, HO2, HN, hrowq, HRPq, hblq⟩
          case measure => simp [intOf]; omega
        have e1 : (p.pStation == st) = true := by simp [a1]
        by_cases a2 : s.pStation = st
        case neg =>
          have e2 : (s.pStation == st) = false := by simp [a2]
          have HO2 : Hid (ll = midP xs st i0 p (k0 + 1)) := Lib.hid (by rw [HO.out]; exact (mid_no HS.out (fun g => a2 (sel_parts g.2.1).2.1)).symm)
          clear a1 a2
          go_wp2
          go_roundw
          case rel => exact ⟨k0 + 1, n, g, ocap, ll, bs, by omega, by go_num, rfl, HO2, HN, hrowq, HRPq, hblq⟩
          case measure => simp [intOf]; omega
        have e2 : (s.pStation == st) = true := by simp [a2]
        by_cases a3 : p.pWave = 0
        case neg =>
          have e3 : (p.pWave == 0) = false := by simp [a3]
          have HO2 : Hid (ll = midP xs st i0 p (k0 + 1)) := Lib.hid (by rw [HO.out]; exact (mid_no HS.out (fun g => a3 (sel_parts g.1).2.2)).symm)
          clear a1 a2 a3
          go_wp2
          go_roundw
          case rel => exact ⟨k0 + 1, n, g, ocap, ll, bs, by omega, by go_num, rfl, HO2, HN, hrowq, HRPq, hblq⟩
          case measure => simp [intOf]; omega
        have e3 : (p.pWave == 0) = true := by simp [a3]
        by_cases a4 : s.pWave = 1
        case neg =>
          have e4 : (s.pWave == 1) = false := by simp [a4]
          have HO2 : Hid (ll = midP xs st i0 p (k0 + 1)) := Lib.hid (by rw [HO.out]; exact (mid_no HS.out (fun g => a4 (sel_parts g.2.1).2.2)).symm)
          clear a1 a2 a3 a4
          go_wp2
          go_roundw
          case rel => exact ⟨k0 + 1, n, g, ocap, ll, bs, by omega, by go_num, rfl, HO2, HN, hrowq, HRPq, hblq⟩
          case measure => simp [intOf]; omega
        have e4 : (s.pWave == 1) = true := by simp [a4]
        cases a5 : curB xs p.pId with
        | false =>
          have HCP := Lib.hid a5
          have HO2 : Hid (ll = midP xs st i0 p (k0 + 1)) := Lib.hid (by rw [HO.out]; exact (mid_no HS.out (fun g => absurd ((sel_parts g.1).1.symm.trans HCP.out) (by simp))).symm)
          clear a1 a2 a3 a4 a5
          go_wp2_with fail
          refine (specCurB xs _ p.pId false wq B HLq.out HCP.out hl).mono ?_
          rintro e w5 ⟨rfl, rfl⟩
          go_wp2
          go_roundw
          case rel => exact ⟨k0 + 1, n, g, ocap, ll, bs, by omega, by go_num, rfl, HO2, HN, hrowq, HRPq, hblq⟩
          case measure => simp [intOf]; omega
        | true =>
        have HCP := Lib.hid a5
        cases a6 : curB xs s.pId with
        | false =>
          have HCS := Lib.hid a6
          have HO2 : Hid (ll = midP xs st i0 p (k0 + 1)) := Lib.hid (by rw [HO.out]; exact (mid_no HS.out (fun g => absurd ((sel_parts g.2.1).1.symm.trans HCS.out) (by simp))).symm)
          clear a1 a2 a3 a4 a5 a6
          go_wp2_with fail
          refine (specCurB xs _ p.pId true wq B HLq.out HCP.out hl).mono ?_
          rintro e w5 ⟨rfl, rfl⟩
          go_wp2_with fail
          refine (specCurB xs _ s.pId false w5 B HLq.out HCS.out hl).mono ?_
          rintro e w6 ⟨rfl, rfl⟩
          go_wp2
          go_roundw
          case rel => exact ⟨k0 + 1, n, g, ocap, ll, bs, by omega, by go_num, rfl, HO2, HN, hrowq, HRPq, hblq⟩
          case measure => simp [intOf]; omega
        | true =>
        have HCS := Lib.hid a6
        have hpo := okP_mem HOK.out (List.mem_of_getElem? HP.out)
        have hso := okP_mem HOK.out (List.mem_of_getElem? HS.out)
        unfold oneP at hpo hso
        have w5' : IntKind.i64.wrap (p.pTick + p.pError) = p.pTick + p.pError := IntWalk.i64_in _ (by omega)
        have w6' : IntKind.i64.wrap (s.pTick - s.pError) = s.pTick - s.pError := IntWalk.i64_in _ (by omega)
        clear hpo hso
        by_cases a7 : p.pTick + p.pError < s.pTick - s.pError
        case neg =>
          have e7 : decide (p.pTick + p.pError < s.pTick - s.pError) = false := decide_eq_false a7
          have HO2 : Hid (ll = midP xs st i0 p (k0 + 1)) := Lib.hid (by rw [HO.out]; exact (mid_no HS.out (fun g => a7 (of_decide_eq_true g.2.2))).symm)
          clear a1 a2 a3 a4 a5 a6
          go_wp2_with fail
          refine (specCurB xs _ p.pId true wq B HLq.out HCP.out hl).mono ?_
          rintro e w5 ⟨rfl, rfl⟩
          go_wp2_with fail
          refine (specCurB xs _ s.pId true w5 B HLq.out HCS.out hl).mono ?_
          rintro e w6 ⟨rfl, rfl⟩
          go_wp2
          go_roundw
          case rel => exact ⟨k0 + 1, n, g, ocap, ll, bs, by omega, by go_num, rfl, HO2, HN, hrowq, HRPq, hblq⟩
          case measure => simp [intOf]; omega
        have e7 : decide (p.pTick + p.pError < s.pTick - s.pError) = true := decide_eq_true a7
        have HMY := Lib.hid (mid_yes (i := i0) HS.out (sel_mk a5 a1 a3) (sel_mk a6 a2 a4) (show befP p s = true from e7))
        have hn156 : n ≤ 156 := by rw [← HN.out, HO.out]; exact mid_len hl12 (by omega)
        have hgl := hrowq.lt g rfl
        clear a1 a2 a3 a4 a5 a6
        go_wp2_with fail
        refine (specCurB xs _ p.pId true wq B HLq.out HCP.out hl).mono ?_
        rintro e w5 ⟨rfl, rfl⟩
        go_wp2_with fail
        refine (specCurB xs _ s.pId true w5 B HLq.out HCS.out hl).mono ?_
        rintro e w6 ⟨rfl, rfl⟩
        go_wp2_with (at_builtin; refine wpList_append_srcK _ rfl _ _ 69 rfl (w.heap.size) 43 ti (.slice none 0 0) 1 24 Try.underlying69 hi hz0 hz1 hz2 rfl (by decide) _ n (bs.map slV2) rfl ((hrowq.alloc _).alloc _) _ 1 [.slice (some ⟨w6.heap.size, 0, none⟩) 2 2] rfl (srcK_box (Bx.new1 w6 (.cells #[.int .i64 p.pId, .int .i64 s.pId] 3) [.slice (some ⟨w6.heap.size, 0, none⟩) 2 2] 43) (by intro u hu; simp only [List.mem_singleton] at hu; subst hu; rfl)) (by unfold maxLen; omega) (by omega) (by first | omega | (simp; done) | (simp; omega)) ?_; intro v7 w7 hr7 hg7 hat7)
        have bxT : Bx ((w6.alloc (.cells #[.int .i64 p.pId, .int .i64 s.pId] 3)).alloc (.cells #[.slice (some ⟨w6.heap.size, 0, none⟩) 2 2] 43)) w6.heap.size [.int .i64 p.pId, .int .i64 s.pId] := (Bx.new w6 [.int .i64 p.pId, .int .i64 s.pId] 3).alloc _
        have MA : Below w6.heap.size w6 ((w6.alloc (.cells #[.int .i64 p.pId, .int .i64 s.pId] 3)).alloc (.cells #[.slice (some ⟨w6.heap.size, 0, none⟩) 2 2] 43)) := ((Below.refl _ w6).alloc (Nat.le_refl _) _).alloc (by first | omega | (simp; done) | (simp; omega)) _
        have hbs4 := HRPq.out.lt
        have bT7 := bxT.grown hg7 (fun e => by have h9 : w6.heap.size = g := Option.some.inj e; omega)
        have RP6 := (HRPq.out.below MA).grown hg7 (fun b hb e => by have h9 : b = g := Option.some.inj e; subst h9; exact HRPq.out.ne hb)
        have hb7 : Below w.heap.size w w7 := (hblq.trans (MA.mono hblq.size)).grown hg7 (by have := hblq.size; have := MA.size; omega) (fun q hq => by cases hq; exact hgl.1)
        obtain ⟨g7, cap7, rfl, hc7, hm7, hL7, hg7'⟩ := row_some hr7 (by omega)
        have hg9 : g7 = g ∨ g7 = w6.heap.size + 1 + 1 := by
          rcases hat7 with e | e
          · exact Or.inl (Option.some.inj e)
          · have := Option.some.inj e; simp at this; exact Or.inr this
        have RP7 := Lib.hid (Rows2.snoc (r := [p.pId, s.pId]) RP6 rfl bT7 (fun b hb => by have := hbs4 b hb; omega) (by have := hblq.size; omega) (by omega) (fun hb => by
          rcases hg9 with e | e
          · rw [e] at hb; exact HRPq.out.ne hb
          · have := hbs4 _ hb; omega) (g7 := g7))
        have HO2 := Lib.hid ((congrArg (fun l => l ++ [[p.pId, s.pId]]) HO.out).trans HMY.out.symm)
        have HN2 : Hid ((ll ++ [[p.pId, s.pId]]).length = n + 1) := Lib.hid (by rw [List.length_append, HN.out]; rfl)
        have hr8 : w7.ownsRow w.heap.size 43 1 (.slice (some ⟨g7, 0, none⟩) (n + 1) cap7) (n + 1) ((bs ++ [w6.heap.size]).map slV2) := by rw [List.map_append]; exact hr7
        clear hr7 RP6 hat7 hg7 bT7 bxT
        go_wp2
        go_roundw
        case rel => exact ⟨k0 + 1, n + 1, g7, cap7, _, _, by omega, by go_num, rfl, HO2, HN2, hr8, RP7, hb7⟩
        case measure => simp [intOf]; omega
      · have bP : Bx (((wr.alloc (.cells #[.int .i64 s.pId, .int .i64 s.pStation, .int .i64 s.pWave, .int .i64 s.pTick, .int .i64 s.pError, .int .i64 s.pBy, .int .i64 s.pAfter] 76)).alloc (.cells #[.int .i64 p.pId, .int .i64 p.pStation, .int .i64 p.pWave, .int .i64 p.pTick, .int .i64 p.pError, .int .i64 p.pBy, .int .i64 p.pAfter] 76)).drew) (wr.heap.size + 1) (encPick p) := Bx.new1 wr (.cells #[.int .i64 s.pId, .int .i64 s.pStation, .int .i64 s.pWave, .int .i64 s.pTick, .int .i64 s.pError, .int .i64 s.pBy, .int .i64 s.pAfter] 76) (encPick p) 76
        have bS : Bx (((wr.alloc (.cells #[.int .i64 s.pId, .int .i64 s.pStation, .int .i64 s.pWave, .int .i64 s.pTick, .int .i64 s.pError, .int .i64 s.pBy, .int .i64 s.pAfter] 76)).alloc (.cells #[.int .i64 p.pId, .int .i64 p.pStation, .int .i64 p.pWave, .int .i64 p.pTick, .int .i64 p.pError, .int .i64 p.pBy, .int .i64 p.pAfter] 76)).drew) (wr.heap.size) (encPick s) := (Bx.new wr (encPick s) 76).alloc _
        have KQ : Below wr.heap.size wr (((wr.alloc (.cells #[.int .i64 s.pId, .int .i64 s.pStation, .int .i64 s.pWave, .int .i64 s.pTick, .int .i64 s.pError, .int .i64 s.pBy, .int .i64 s.pAfter] 76)).alloc (.cells #[.int .i64 p.pId, .int .i64 p.pStation, .int .i64 p.pWave, .int .i64 p.pTick, .int .i64 p.pError, .int .i64 p.pBy, .int .i64 p.pAfter] 76)).drew) := (((Below.refl _ wr).alloc (Nat.le_refl _) _).alloc (by first | omega | (simp; done) | (simp; omega)) _).drew
        generalize ((wr.alloc (.cells #[.int .i64 s.pId, .int .i64 s.pStation, .int .i64 s.pWave, .int .i64 s.pTick, .int .i64 s.pError, .int .i64 s.pBy, .int .i64 s.pAfter] 76)).alloc (.cells #[.int .i64 p.pId, .int .i64 p.pStation, .int .i64 p.pWave, .int .i64 p.pTick, .int .i64 p.pError, .int .i64 p.pBy, .int .i64 p.pAfter] 76)).drew = wq at *
        have hblq : Below w.heap.size w wq := hbl.trans (KQ.mono hsz)
        have hrowq := row_below hrow KQ
        have HRPq := Lib.hid (HRP.out.below KQ)
        have HLq := Lib.hid (HL.out.below (hblq.mono hB))
        have q0 : wq.cell? ⟨wr.heap.size + 1, 0, none⟩ = some (.int .i64 p.pId) := bP.2 0 _ rfl
        have q1 : wq.cell? ⟨wr.heap.size + 1, 1, none⟩ = some (.int .i64 p.pStation) := bP.2 1 _ rfl
        have q2 : wq.cell? ⟨wr.heap.size + 1, 2, none⟩ = some (.int .i64 p.pWave) := bP.2 2 _ rfl
        have q3 : wq.cell? ⟨wr.heap.size + 1, 3, none⟩ = some (.int .i64 p.pTick) := bP.2 3 _ rfl
        have q4 : wq.cell? ⟨wr.heap.size + 1, 4, none⟩ = some (.int .i64 p.pError) := bP.2 4 _ rfl
        have q5 : wq.cell? ⟨wr.heap.size + 1, 5, none⟩ = some (.int .i64 p.pBy) := bP.2 5 _ rfl
        have q6 : wq.cell? ⟨wr.heap.size + 1, 6, none⟩ = some (.int .i64 p.pAfter) := bP.2 6 _ rfl
        have t0 : wq.cell? ⟨wr.heap.size, 0, none⟩ = some (.int .i64 s.pId) := bS.2 0 _ rfl
        have t1 : wq.cell? ⟨wr.heap.size, 1, none⟩ = some (.int .i64 s.pStation) := bS.2 1 _ rfl
        have t2 : wq.cell? ⟨wr.heap.size, 2, none⟩ = some (.int .i64 s.pWave) := bS.2 2 _ rfl
        have t3 : wq.cell? ⟨wr.heap.size, 3, none⟩ = some (.int .i64 s.pTick) := bS.2 3 _ rfl
        have t4 : wq.cell? ⟨wr.heap.size, 4, none⟩ = some (.int .i64 s.pError) := bS.2 4 _ rfl
        have t5 : wq.cell? ⟨wr.heap.size, 5, none⟩ = some (.int .i64 s.pBy) := bS.2 5 _ rfl
        have t6 : wq.cell? ⟨wr.heap.size, 6, none⟩ = some (.int .i64 s.pAfter) := bS.2 6 _ rfl
        have zq := KQ.size
        clear hrow HRP bP bS
        by_cases a1 : p.pStation = st
        case neg =>
          have e1 : (p.pStation == st) = false := by simp [a1]
          have HO2 : Hid (ll = midP xs st i0 p (k0 + 1)) := Lib.hid (by rw [HO.out]; exact (mid_no HS.out (fun g => a1 (sel_parts g.1).2.1)).symm)
          clear a1
          go_wp2
          go_roundw
          case rel => exact ⟨k0 + 1, n, g, ocap, ll, bs, by omega, by go_num, rfl, HO2, HN, hrowq, HRPq, hblq⟩
          case measure => simp [intOf]; omega
        have e1 : (p.pStation == st) = true := by simp [a1]
        by_cases a2 : s.pStation = st
        case neg =>
          have e2 : (s.pStation == st) = false := by simp [a2]
          have HO2 : Hid (ll = midP xs st i0 p (k0 + 1)) := Lib.hid (by rw [HO.out]; exact (mid_no HS.out (fun g => a2 (sel_parts g.2.1).2.1)).symm)
          clear a1 a2
          go_wp2
          go_roundw
          case rel => exact ⟨k0 + 1, n, g, ocap, ll, bs, by omega, by go_num, rfl, HO2, HN, hrowq, HRPq, hblq⟩
          case measure => simp [intOf]; omega
        have e2 : (s.pStation == st) = true := by simp [a2]
        by_cases a3 : p.pWave = 0
        case neg =>
          have e3 : (p.pWave == 0) = false := by simp [a3]
          have HO2 : Hid (ll = midP xs st i0 p (k0 + 1)) := Lib.hid (by rw [HO.out]; exact (mid_no HS.out (fun g => a3 (sel_parts g.1).2.2)).symm)
          clear a1 a2 a3
          go_wp2
          go_roundw
          case rel => exact ⟨k0 + 1, n, g, ocap, ll, bs, by omega, by go_num, rfl, HO2, HN, hrowq, HRPq, hblq⟩
          case measure => simp [intOf]; omega
        have e3 : (p.pWave == 0) = true := by simp [a3]
        by_cases a4 : s.pWave = 1
        case neg =>
          have e4 : (s.pWave == 1) = false := by simp [a4]
          have HO2 : Hid (ll = midP xs st i0 p (k0 + 1)) := Lib.hid (by rw [HO.out]; exact (mid_no HS.out (fun g => a4 (sel_parts g.2.1).2.2)).symm)
          clear a1 a2 a3 a4
          go_wp2
          go_roundw
          case rel => exact ⟨k0 + 1, n, g, ocap, ll, bs, by omega, by go_num, rfl, HO2, HN, hrowq, HRPq, hblq⟩
          case measure => simp [intOf]; omega
        have e4 : (s.pWave == 1) = true := by simp [a4]
        cases a5 : curB xs p.pId with
        | false =>
          have HCP := Lib.hid a5
          have HO2 : Hid (ll = midP xs st i0 p (k0 + 1)) := Lib.hid (by rw [HO.out]; exact (mid_no HS.out (fun g => absurd ((sel_parts g.1).1.symm.trans HCP.out) (by simp))).symm)
          clear a1 a2 a3 a4 a5
          go_wp2_with fail
          refine (specCurB xs _ p.pId false wq B HLq.out HCP.out hl).mono ?_
          rintro e w5 ⟨rfl, rfl⟩
          go_wp2
          go_roundw
          case rel => exact ⟨k0 + 1, n, g, ocap, ll, bs, by omega, by go_num, rfl, HO2, HN, hrowq, HRPq, hblq⟩
          case measure => simp [intOf]; omega
        | true =>
        have HCP := Lib.hid a5
        cases a6 : curB xs s.pId with
        | false =>
          have HCS := Lib.hid a6
          have HO2 : Hid (ll = midP xs st i0 p (k0 + 1)) := Lib.hid (by rw [HO.out]; exact (mid_no HS.out (fun g => absurd ((sel_parts g.2.1).1.symm.trans HCS.out) (by simp))).symm)
          clear a1 a2 a3 a4 a5 a6
          go_wp2_with fail
          refine (specCurB xs _ p.pId true wq B HLq.out HCP.out hl).mono ?_
          rintro e w5 ⟨rfl, rfl⟩
          go_wp2_with fail
          refine (specCurB xs _ s.pId false w5 B HLq.out HCS.out hl).mono ?_
          rintro e w6 ⟨rfl, rfl⟩
          go_wp2
          go_roundw
          case rel => exact ⟨k0 + 1, n, g, ocap, ll, bs, by omega, by go_num, rfl, HO2, HN, hrowq, HRPq, hblq⟩
          case measure => simp [intOf]; omega
        | true =>
        have HCS := Lib.hid a6
        have hpo := okP_mem HOK.out (List.mem_of_getElem? HP.out)
        have hso := okP_mem HOK.out (List.mem_of_getElem? HS.out)
        unfold oneP at hpo hso
        have w5' : IntKind.i64.wrap (p.pTick + p.pError) = p.pTick + p.pError := IntWalk.i64_in _ (by omega)
        have w6' : IntKind.i64.wrap (s.pTick - s.pError) = s.pTick - s.pError := IntWalk.i64_in _ (by omega)
        clear hpo hso
        by_cases a7 : p.pTick + p.pError < s.pTick - s.pError
        case neg =>
          have e7 : decide (p.pTick + p.pError < s.pTick - s.pError) = false := decide_eq_false a7
          have HO2 : Hid (ll = midP xs st i0 p (k0 + 1)) := Lib.hid (by rw [HO.out]; exact (mid_no HS.out (fun g => a7 (of_decide_eq_true g.2.2))).symm)
          clear a1 a2 a3 a4 a5 a6
          go_wp2_with fail
          refine (specCurB xs _ p.pId true wq B HLq.out HCP.out hl).mono ?_
          rintro e w5 ⟨rfl, rfl⟩
          go_wp2_with fail
          refine (specCurB xs _ s.pId true w5 B HLq.out HCS.out hl).mono ?_
          rintro e w6 ⟨rfl, rfl⟩
          go_wp2
          go_roundw
          case rel => exact ⟨k0 + 1, n, g, ocap, ll, bs, by omega, by go_num, rfl, HO2, HN, hrowq, HRPq, hblq⟩
          case measure => simp [intOf]; omega
        have e7 : decide (p.pTick + p.pError < s.pTick - s.pError) = true := decide_eq_true a7
        have HMY := Lib.hid (mid_yes (i := i0) HS.out (sel_mk a5 a1 a3) (sel_mk a6 a2 a4) (show befP p s = true from e7))
        have hn156 : n ≤ 156 := by rw [← HN.out, HO.out]; exact mid_len hl12 (by omega)
        have hgl := hrowq.lt g rfl
        clear a1 a2 a3 a4 a5 a6
        go_wp2_with fail
        refine (specCurB xs _ p.pId true wq B HLq.out HCP.out hl).mono ?_
        rintro e w5 ⟨rfl, rfl⟩
        go_wp2_with fail
        refine (specCurB xs _ s.pId true w5 B HLq.out HCS.out hl).mono ?_
        rintro e w6 ⟨rfl, rfl⟩
        go_wp2_with (at_builtin; refine wpList_append_srcK _ rfl _ _ 69 rfl (w.heap.size) 43 ti (.slice none 0 0) 1 24 Try.underlying69 hi hz0 hz1 hz2 rfl (by decide) _ n (bs.map slV2) rfl ((hrowq.alloc _).alloc _) _ 1 [.slice (some ⟨w6.heap.size, 0, none⟩) 2 2] rfl (srcK_box (Bx.new1 w6 (.cells #[.int .i64 p.pId, .int .i64 s.pId] 3) [.slice (some ⟨w6.heap.size, 0, none⟩) 2 2] 43) (by intro u hu; simp only [List.mem_singleton] at hu; subst hu; rfl)) (by unfold maxLen; omega) (by omega) (by first | omega | (simp; done) | (simp; omega)) ?_; intro v7 w7 hr7 hg7 hat7)
        have bxT : Bx ((w6.alloc (.cells #[.int .i64 p.pId, .int .i64 s.pId] 3)).alloc (.cells #[.slice (some ⟨w6.heap.size, 0, none⟩) 2 2] 43)) w6.heap.size [.int .i64 p.pId, .int .i64 s.pId] := (Bx.new w6 [.int .i64 p.pId, .int .i64 s.pId] 3).alloc _
        have MA : Below w6.heap.size w6 ((w6.alloc (.cells #[.int .i64 p.pId, .int .i64 s.pId] 3)).alloc (.cells #[.slice (some ⟨w6.heap.size, 0, none⟩) 2 2] 43)) := ((Below.refl _ w6).alloc (Nat.le_refl _) _).alloc (by first | omega | (simp; done) | (simp; omega)) _
        have hbs4 := HRPq.out.lt
        have bT7 := bxT.grown hg7 (fun e => by have h9 : w6.heap.size = g := Option.some.inj e; omega)
        have RP6 := (HRPq.out.below MA).grown hg7 (fun b hb e => by have h9 : b = g := Option.some.inj e; subst h9; exact HRPq.out.ne hb)
        have hb7 : Below w.heap.size w w7 := (hblq.trans (MA.mono hblq.size)).grown hg7 (by have := hblq.size; have := MA.size; omega) (fun q hq => by cases hq; exact hgl.1)
        obtain ⟨g7, cap7, rfl, hc7, hm7, hL7, hg7'⟩ := row_some hr7 (by omega)
        have hg9 : g7 = g ∨ g7 = w6.heap.size + 1 + 1 := by
          rcases hat7 with e | e
          · exact Or.inl (Option.some.inj e)
          · have := Option.some.inj e; simp at this; exact Or.inr this
        have RP7 := Lib.hid (Rows2.snoc (r := [p.pId, s.pId]) RP6 rfl bT7 (fun b hb => by have := hbs4 b hb; omega) (by have := hblq.size; omega) (by omega) (fun hb => by
          rcases hg9 with e | e
          · rw [e] at hb; exact HRPq.out.ne hb
          · have := hbs4 _ hb; omega) (g7 := g7))
        have HO2 := Lib.hid ((congrArg (fun l => l ++ [[p.pId, s.pId]]) HO.out).trans HMY.out.symm)
        have HN2 : Hid ((ll ++ [[p.pId, s.pId]]).length = n + 1) := Lib.hid (by rw [List.length_append, HN.out]; rfl)
        have hr8 : w7.ownsRow w.heap.size 43 1 (.slice (some ⟨g7, 0, none⟩) (n + 1) cap7) (n + 1) ((bs ++ [w6.heap.size]).map slV2) := by rw [List.map_append]; exact hr7
        clear hr7 RP6 hat7 hg7 bT7 bxT
        go_wp2
        go_roundw
        case rel => exact ⟨k0 + 1, n + 1, g7, cap7, _, _, by omega, by go_num, rfl, HO2, HN2, hr8, RP7, hb7⟩
        case measure => simp [intOf]; omega
end Go.Proofs.Ytklilfbokpljkaa
