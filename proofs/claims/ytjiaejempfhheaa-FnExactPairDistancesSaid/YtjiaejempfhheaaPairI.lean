/- The distances of all pairs: the program. -/
import Derived.Test.YtjiaejempfhheaaPairT
namespace Go.Proofs.Ytjiaejempfhheaa
open Go.ChangeShapes Go.WideShapes Go.ChangeAt Go.RowKit Go.ChangeMaps Go.Sort Go.Shelf
set_option linter.unusedSimpArgs false
set_option linter.unusedVariables false

theorem rows_SSO {w : World} {L g n cap : Nat} {ol : List GPair} {bs : List Nat} (h : RowsP w L g ol bs) (hgl : L ≤ g ∧ g < w.heap.size) (hOw : Own id w L w.heap.size (.slice (some ⟨g, 0, none⟩) n cap) (bs.map slV)) :
    SSO w L w.heap.size (.slice (some ⟨g, 0, none⟩) n cap) (ol.map rowP) := by
  refine ⟨bs.map slV, bs, g, ?_, ?_, h.nodup, h.ne, hgl, ?_, fun b hb => ⟨h.low b hb, ?_⟩, fun i u ys b hu hy hb => ?_⟩
  · rw [List.length_map, List.length_map]; exact h.len
  · rw [List.length_map]; exact h.len
  · obtain ⟨ao', cap', g1, g2, g3, gn, g4⟩ := hOw
    refine ⟨ao', cap', g1, g2, g3, gn, fun i x hx => ?_⟩
    obtain ⟨b, off, e1, e0, e2, e3, e4⟩ := g4 i x hx
    have : b = g := by subst e1; simp only [Value.slice.injEq, Option.some.injEq, Addr.mk.injEq] at g1; exact g1.1.1.symm
    exact ⟨b, off, e1, by omega, by omega, e3, e4⟩
  · obtain ⟨i, hi⟩ := List.mem_iff_getElem?.1 hb
    obtain ⟨p, hp⟩ := get_of_lt (l := ol) (k := i) (by rw [← h.len]; exact (List.getElem?_eq_some_iff.1 hi).1)
    exact (h.at_ i b p hi hp).1.1
  · rw [List.getElem?_map] at hy
    obtain ⟨p, hp, rfl⟩ := Option.map_eq_some_iff.1 hy
    rw [List.getElem?_map, hb] at hu
    cases hu
    have hbx := h.at_ i b p hb hp
    refine ⟨some ⟨b, 0, none⟩, 3, rfl, by simp [rowP], by simp [maxLen], by simp, fun q x hx => ⟨b, 0, rfl, Nat.le_refl _, Nat.lt_succ_self _, ?_, hbx.1.2 _⟩⟩
    rw [Nat.zero_add]
    refine hbx.2 q _ ?_
    have e : cellsP p = (rowP p).map (Value.int .i64) := rfl
    rw [e, List.getElem?_map, hx]; rfl
theorem RowsP.grown {w w' : World} {base g : Nat} {ol : List GPair} {bs : List Nat} {row : Option Nat} (h : RowsP w base g ol bs) (hg : w.grownBy w' row) (hr : ∀ b ∈ bs, some b ≠ row) : RowsP w' base g ol bs :=
  ⟨h.len, h.nodup, h.low, h.ne, fun i b p h1 h2 => (h.at_ i b p h1 h2).grownP hg (hr b (List.mem_of_getElem? h1))⟩
theorem RowsP.lt {w : World} {base g : Nat} {ol : List GPair} {bs : List Nat} (h : RowsP w base g ol bs) : ∀ b ∈ bs, b < w.heap.size := by
  intro b hb
  obtain ⟨i, hi⟩ := List.mem_iff_getElem?.1 hb
  obtain ⟨p, hp⟩ := get_of_lt (l := ol) (k := i) (by rw [← h.len]; exact (List.getElem?_eq_some_iff.1 hi).1)
  exact (h.at_ i b p hi hp).1.1
theorem rowsP_snoc {w : World} {base g g7 bT : Nat} {ol : List GPair} {bs : List Nat} {p : GPair} (h : RowsP w base g ol bs) (hb : Bx w bT (cellsP p)) (hlt : ∀ b ∈ bs, b < bT) (hbase : base ≤ bT) (hg7 : g7 ≠ bT) (hgn : g7 ∉ bs) :
    RowsP w base g7 (ol ++ [p]) (bs ++ [bT]) := by
  have hl := h.len
  refine ⟨by simp [hl], ?_, fun b hb => ?_, fun hb => ?_, fun i b q h1 h2 => ?_⟩
  · rw [List.nodup_append]
    exact ⟨h.nodup, by simp, fun a ha b hb => by have := hlt a ha; simp only [List.mem_singleton] at hb; omega⟩
  · rcases List.mem_append.1 hb with q | q
    · exact h.low b q
    · simp only [List.mem_singleton] at q; omega
  · rcases List.mem_append.1 hb with q | q
    · exact hgn q
    · simp only [List.mem_singleton] at q; exact hg7 q
  · by_cases hi : i < bs.length
    · rw [List.getElem?_append_left hi] at h1
      rw [List.getElem?_append_left (by omega)] at h2
      exact h.at_ i b q h1 h2
    · rw [List.getElem?_append_right (by omega)] at h1
      rw [List.getElem?_append_right (by omega)] at h2
      have e : i - bs.length = 0 := by
        have := (List.getElem?_eq_some_iff.1 h1).1
        simp only [List.length_singleton] at this
        omega
      rw [e] at h1
      rw [← hl, e] at h2
      simp only [List.getElem?_cons_zero, Option.some.injEq] at h1 h2
      subst h1 h2
      exact hb
/-- The pairs so far, in the order in which they are made. -/
def madeP (xs : List GStation) (s : GStation) (i m : Nat) : List GPair := fullP xs i ++ ((xs.drop (i + 1)).take m).map fun t => (s, t)
theorem madeP_asc {xs : List GStation} (hg : goodL xs = true) {s t : GStation} {i m : Nat} (hs : xs[i]? = some s) (ht : xs[i + 1 + m]? = some t) {p : GPair} (hp : p ∈ madeP xs s i m) : ascP p (s, t) := by
  have hpw := List.pairwise_iff_getElem.1 (ids_nodup hg)
  have hs' := List.getElem?_eq_some_iff.1 hs
  have ht' := List.getElem?_eq_some_iff.1 ht
  rcases List.mem_append.1 hp with q | q
  · obtain ⟨j, m', hj, h1, h2, _⟩ := fullP_mem q
    have h1' := List.getElem?_eq_some_iff.1 h1
    have := hpw j i h1'.1 hs'.1 hj
    rw [h1'.2, hs'.2] at this
    exact Or.inl this
  · obtain ⟨u, hu, rfl⟩ := List.mem_map.1 q
    obtain ⟨j, hj⟩ := List.mem_iff_getElem?.1 hu
    rw [List.getElem?_take] at hj
    split at hj
    · rename_i hjm
      rw [List.getElem?_drop] at hj
      have hj' := List.getElem?_eq_some_iff.1 hj
      have := hpw (i + 1 + j) (i + 1 + m) hj'.1 ht'.1 (by omega)
      rw [hj'.2, ht'.2] at this
      exact Or.inr ⟨rfl, this⟩
    · cases hj
theorem madeP_succ {xs : List GStation} {s t : GStation} {i m : Nat} (ht : xs[i + 1 + m]? = some t) : madeP xs s i (m + 1) = madeP xs s i m ++ [(s, t)] := by
  unfold madeP
  have e : (xs.drop (i + 1)).take (m + 1) = (xs.drop (i + 1)).take m ++ [t] := take_snoc (by rw [List.getElem?_drop]; exact ht)
  rw [e, List.map_append, ← List.append_assoc]; rfl
theorem madeP_zero (xs : List GStation) (s : GStation) (i : Nat) : madeP xs s i 0 = fullP xs i := by unfold madeP; simp
theorem madeP_end {xs : List GStation} {s : GStation} {i m : Nat} (hs : xs[i]? = some s) (hm : xs.length ≤ i + 1 + m) : madeP xs s i m = fullP xs (i + 1) := by
  unfold madeP
  rw [fullP_succ hs, List.take_of_length_le (by rw [List.length_drop]; omega)]; rfl
theorem madeP_len {xs : List GStation} {s : GStation} {i m : Nat} (hl : xs.length ≤ 10) (hi : i ≤ 10) : (madeP xs s i m).length ≤ 110 := by
  unfold madeP
  rw [List.length_append, List.length_map, List.length_take, List.length_drop]
  have h2 := fullP_len xs i
  have h3 : i * xs.length ≤ 10 * 10 := Nat.mul_le_mul hi hl
  omega
theorem asc_snoc {ol : List GPair} {p : GPair} (h : ol.Pairwise ascP) (hp : ∀ q ∈ ol, ascP q p) : (ol ++ [p]).Pairwise ascP := by
  rw [List.pairwise_append]
  exact ⟨h, by simp, fun a ha b hb => by rw [List.mem_singleton] at hb; rw [hb]; exact hp a ha⟩
theorem infoInts2 : (Try.prog.info? 27).map (fun i => (i.zero, i.size, i.bytes)) = some (some (.slice none 0 0), 1, 24) := by kernel_rfl

set_option maxRecDepth 100000 in
set_option maxHeartbeats 8000000 in
theorem implPair (xs : List GStation) (v : Value) (w : World) (B : Nat) (h : StationL w B v xs) (hB : B ≤ w.heap.size) (hn : szsStation xs ≤ 1048576) (hw : ∀ s ∈ xs, wfStation s) :
    Calls Try.prog 38 #[v] w fun e w' => ∃ v', e = .returned (.tuple #[v', .bool (goodL xs)]) ∧ SSO w' w.heap.size w'.heap.size v' (resPair xs) ∧ Below w.heap.size w w' := by
  generalize hres : resPair xs = res
  have HR := Lib.hid hres
  clear hres
  by_cases hg : goodL xs = true
  case neg =>
    have C := Lib.hid (implAreV xs v w B h hB hn hw false (bool_f hg))
    have E2 : res = [] := by rw [← HR.out]; unfold resPair; rw [if_neg hg]
    subst E2
    rw [bool_f hg]
    clear hg
    obtain ⟨ao, cap, rfl, -⟩ := h
    go_enter Try.func38, Try.ntmps38
    go_wp2_with fail
    refine C.out.mono ?_
    rintro e w1 ⟨rfl, hb⟩
    have C1 := hb.alloc hb.size (.cells #[] 27)
    go_wp2
    go_ret2
    exact ⟨_, rfl, ⟨[], [], w1.heap.size, rfl, rfl, List.nodup_nil, by simp, ⟨hb.size, by simp⟩, ⟨some ⟨w1.heap.size, 0, none⟩, 0, rfl, by simp, by simp [maxLen], by simp, by simp⟩, by simp, by simp⟩, C1⟩
  have C := Lib.hid (implAreV xs v w B h hB hn hw true hg)
  have hlen := goodL_len hg
  have E2 : Hid (res = (pairL xs).map rowP) := Lib.hid (by rw [← HR.out]; unfold resPair; rw [if_pos hg])
  have HGL := Lib.hid hg
  rw [hg]
  clear hg HR
  obtain ⟨ao, cap, rfl, hcap, hmax, hnn, hc⟩ := h
  unfold maxLen at hmax
  have HC := Lib.hid hc
  clear hc hnn
  obtain ⟨ti, hi, hz0, hz1, hz2⟩ := info_parts infoInts2
  go_enter Try.func38, Try.ntmps38
  go_wp2_with fail
  refine C.out.mono ?_
  rintro e w1 ⟨rfl, hb⟩
  have hr1 := row_empty w1 (base := w.heap.size) 27 1 hb.size
  have C1 := hb.alloc hb.size (.cells #[] 27)
  have hgl0 := hb.size
  obtain ⟨w2, hw2⟩ : ∃ W, w1.alloc (.cells #[] 27) = W := ⟨_, rfl⟩
  rw [hw2] at hr1 C1
  have hr2 : w2.ownsRow w.heap.size 27 1 (.slice (some ⟨w1.heap.size, 0, none⟩) 0 0) 0 (([] : List Nat).map slV) := hr1
  clear hb C
  go_wp2
  clear hw2
  go_loopw [4, 16] (fun o i wr => ∃ (i0 n g cap : Nat) (ol : List GPair) (bs : List Nat), i0 ≤ xs.length ∧ i = .int .i64 i0 ∧ o = .slice (some ⟨g, 0, none⟩) n cap ∧ Hid (ol = fullP xs i0 ∧ ol.Pairwise ascP) ∧ wr.ownsRow w.heap.size 27 1 (.slice (some ⟨g, 0, none⟩) n cap) n (bs.map slV) ∧ Hid (RowsP wr w.heap.size g ol bs) ∧ n ≤ cap ∧ cap ≤ maxLen ∧ Below w.heap.size w wr)
    (fun _ i _ => xs.length - (intOf i).toNat)
  case atStart => exact ⟨0, 0, _, 0, [], [], Nat.zero_le _, rfl, rfl, Lib.hid ⟨by simp [fullP], List.Pairwise.nil⟩, hr2, Lib.hid ⟨rfl, List.nodup_nil, by simp, by simp, by simp⟩, Nat.le_refl _, Nat.zero_le _, C1⟩
  case round =>
    obtain ⟨i0, n, g, ocap, ol, bs, hi0, rfl, rfl, HO, hrow, HRP, hoc, hom, hbl⟩ := hrel
    have hsz := hbl.size
    unfold maxLen at hom
    by_cases hlt : i0 < xs.length
    case neg =>
      obtain rfl : i0 = xs.length := by omega
      have hbn : bs.length = n := by have := hrow.1; simpa using this
      have hon : ol.length = n := HRP.out.len.symm.trans hbn
      have hn110 : n ≤ 110 := by rw [← hon, HO.out.1]; have := fullP_len xs xs.length; have : xs.length * xs.length ≤ 10 * 10 := Nat.mul_le_mul hlen hlen; omega
      by_cases hn0 : 0 < n
      · have SP := Lib.hid (sortPair hn0 hn110 hon HO.out.2 HRP.out hrow hsz)
        have hgl := hrow.lt g rfl
        clear hrow HRP
        go_wp2_with fail
        refine SP.out.mono ?_
        rintro e w9 ⟨rfl, ol', bs', hp, hlt', hR', hO', hb9⟩
        have hz9 := hb9.size
        have e9 : ol' = pairL xs := pairL_uniq (by rw [show prs xs = ol from HO.out.1.symm]; exact hp) hlt'
        have hgs : g < w9.heap.size := by
          obtain ⟨ao', cap', g1, g2, g3, gn, g4⟩ := hO'
          obtain ⟨b0, hb0⟩ := get_of_lt (l := bs'.map slV) (k := 0) (by rw [List.length_map, hR'.len, hp.length_eq]; omega)
          obtain ⟨b, off, f1, f0, f2, _, _⟩ := g4 0 b0 hb0
          subst f1
          simp only [Value.slice.injEq, Option.some.injEq, Addr.mk.injEq] at g1
          omega
        have hS := rows_SSO hR' ⟨hgl.1, hgs⟩ hO'
        rw [e9, ← E2.out] at hS
        have HS9 := Lib.hid hS
        clear hS hR' hO' hp hlt'
        go_wp2
        go_ret2
        exact ⟨_, rfl, HS9.out, hbl.trans hb9⟩
      · obtain rfl : n = 0 := by omega
        have hol : ol = [] := List.eq_nil_of_length_eq_zero hon
        have hbs : bs = [] := List.eq_nil_of_length_eq_zero hbn
        have e9 : pairL xs = [] := by
          have h1 := (pairL_perm xs).length_eq
          rw [show prs xs = ol from HO.out.1.symm, hol] at h1
          exact List.eq_nil_of_length_eq_zero h1
        have SN := Lib.hid (fun W => AnyF.slices_SortFunc_none (P := Try.prog) { Try.sort1_93 with } (some ⟨g, 0, none⟩) ocap (.func (.func 94) #[] #[]) W)
        have hgl := hrow.lt g rfl
        have hOw : Own id wr w.heap.size wr.heap.size (.slice (some ⟨g, 0, none⟩) 0 ocap) (bs.map slV) := Own.of_row (by simpa using hrow)
        have hS := rows_SSO HRP.out hgl hOw
        rw [hol, List.map_nil] at hS
        have E3 : res = [] := by rw [E2.out, e9]; rfl
        subst E3
        have HS9 := Lib.hid hS
        clear hS hOw hrow HRP
        go_wp2_with fail
        refine (SN.out _).mono ?_
        rintro e w9 ⟨rfl, hw9⟩
        subst hw9
        go_wp2
        go_ret2
        exact ⟨_, rfl, HS9.out, hbl⟩
    obtain ⟨s, hs⟩ := get_of_lt hlt
    obtain ⟨b1, off1, rfl, hb1, hcell1⟩ := HC.out i0 s hs
    have gs := goodS_bounds (goodL_at HGL.out hs)
    have HS := Lib.hid hs
    have c0 : wr.cell? ⟨b1, off1 + i0 * 8, none⟩ = some (.int .i64 s.pId) := cellOf hbl (by omega) (hcell1 0 _ rfl)
    have c1 : wr.cell? ⟨b1, off1 + i0 * 8 + 1, none⟩ = some (.string s.pName) := cellOf hbl (by omega) (hcell1 1 _ rfl)
    have c2 : wr.cell? ⟨b1, off1 + i0 * 8 + 2, none⟩ = some (.int .i64 s.pX) := cellOf hbl (by omega) (hcell1 2 _ rfl)
    have c3 : wr.cell? ⟨b1, off1 + i0 * 8 + 3, none⟩ = some (.int .i64 s.pY) := cellOf hbl (by omega) (hcell1 3 _ rfl)
    have c4 : wr.cell? ⟨b1, off1 + i0 * 8 + 4, none⟩ = some (.int .i64 s.pGain) := cellOf hbl (by omega) (hcell1 4 _ rfl)
    have c5 : wr.cell? ⟨b1, off1 + i0 * 8 + 5, none⟩ = some (.int .i64 s.pLow) := cellOf hbl (by omega) (hcell1 5 _ rfl)
    have c6 : wr.cell? ⟨b1, off1 + i0 * 8 + 6, none⟩ = some (.int .i64 s.pHigh) := cellOf hbl (by omega) (hcell1 6 _ rfl)
    have c7 : wr.cell? ⟨b1, off1 + i0 * 8 + 7, none⟩ = some (.int .i64 s.pUntil) := cellOf hbl (by omega) (hcell1 7 _ rfl)
    have hi1 : (i0 : Int) < (xs.length : Int) := by omega
    have hi2 : (0 : Int) ≤ (i0 : Int) := by omega
    have hi3 : (i0 : Int) + 1 ≤ (xs.length : Int) := by omega
    have hi4 : (xs.length : Int) ≤ 10 := by omega
    have hi5 : (0 : Int) ≤ (i0 : Int) + 1 := by omega
    have hi6 : ((i0 : Int) + 1).toNat = i0 + 1 := by omega
    have hi7 : (xs.length : Int) ≤ (cap : Int) := by omega
    clear hs hcell1
    have hgwr := (hrow.lt g rfl).2
    have bA := Bx.new wr [.int .i64 s.pId, .string s.pName, .int .i64 s.pX, .int .i64 s.pY, .int .i64 s.pGain, .int .i64 s.pLow, .int .i64 s.pHigh, .int .i64 s.pUntil] 36
    have hb2 := hbl.alloc hsz (.cells #[.int .i64 s.pId, .string s.pName, .int .i64 s.pX, .int .i64 s.pY, .int .i64 s.pGain, .int .i64 s.pLow, .int .i64 s.pHigh, .int .i64 s.pUntil] 36)
    have hrow2 := row_below hrow ((Below.refl wr.heap.size wr).alloc (Nat.le_refl _) (.cells #[.int .i64 s.pId, .string s.pName, .int .i64 s.pX, .int .i64 s.pY, .int .i64 s.pGain, .int .i64 s.pLow, .int .i64 s.pHigh, .int .i64 s.pUntil] 36))
    have HRP2 := Lib.hid (HRP.out.below ((Below.refl wr.heap.size wr).alloc (Nat.le_refl _) (.cells #[.int .i64 s.pId, .string s.pName, .int .i64 s.pX, .int .i64 s.pY, .int .i64 s.pGain, .int .i64 s.pLow, .int .i64 s.pHigh, .int .i64 s.pUntil] 36)))
    have hzW : wr.heap.size + 1 ≤ (wr.alloc (.cells #[.int .i64 s.pId, .string s.pName, .int .i64 s.pX, .int .i64 s.pY, .int .i64 s.pGain, .int .i64 s.pLow, .int .i64 s.pHigh, .int .i64 s.pUntil] 36)).heap.size := by simp
    obtain ⟨w3, hw3⟩ : ∃ W, wr.alloc (.cells #[.int .i64 s.pId, .string s.pName, .int .i64 s.pX, .int .i64 s.pY, .int .i64 s.pGain, .int .i64 s.pLow, .int .i64 s.pHigh, .int .i64 s.pUntil] 36) = W := ⟨_, rfl⟩
    rw [hw3] at bA hb2 hrow2 HRP2 hzW
    clear hrow HRP hbl
    obtain ⟨ba, hba⟩ : ∃ b, wr.heap.size = b := ⟨_, rfl⟩
    by_cases hcp : i0 + 1 = cap
    case pos =>
      have hxl : xs.length = i0 + 1 := by omega
      have hcp2 : (i0 : Int) + 1 = (cap : Int) := by omega
      have HXL := Lib.hid hxl
      have hxz : (xs.length : Int) - ((i0 : Int) + 1) = 0 := by omega
      have hxz2 : xs.length - (i0 + 1) = 0 := by omega
      clear hxl
      go_wp2
      go_loopw [4, 26] (fun o i wr' => o = .slice (some ⟨g, 0, none⟩) n ocap ∧ i = .int .i64 0 ∧ wr' = w3) (fun _ _ _ => 0)
      case atStart => exact ⟨rfl, rfl, rfl⟩
      case round =>
        obtain ⟨rfl, rfl, rfl⟩ := hrel
        have HO2 : Hid (ol = fullP xs (i0 + 1) ∧ ol.Pairwise ascP) := Lib.hid ⟨by rw [← madeP_end (m := 0) HS.out (by rw [HXL.out]; omega), madeP_zero]; exact HO.out.1, HO.out.2⟩
        have hi9 : i0 + 1 ≤ xs.length := by rw [HXL.out]; omega
        go_wp2
        go_roundw
        case rel => exact ⟨i0 + 1, n, g, ocap, ol, bs, hi9, by go_num, rfl, HO2, hrow2, HRP2, hoc, hom, hb2⟩
        case measure => simp [intOf]; omega
    case neg =>
    have hcp2 : (i0 : Int) + 1 < (cap : Int) := by omega
    have hcp3 : ¬ (i0 : Int) + 1 = (cap : Int) := by omega
    rw [hba] at bA
    have hbal : ba < w3.heap.size := bA.1.1
    have hbw : w.heap.size ≤ ba := by omega
    clear hzW
    go_wp2
    clear hw3
    go_loopw [4, 26] (fun o i wr' => ∃ (m n g cap : Nat) (ol : List GPair) (bs : List Nat), i0 + 1 + m ≤ xs.length ∧ i = .int .i64 m ∧ o = .slice (some ⟨g, 0, none⟩) n cap ∧ Hid (ol = madeP xs s i0 m ∧ ol.Pairwise ascP) ∧ wr'.ownsRow w.heap.size 27 1 (.slice (some ⟨g, 0, none⟩) n cap) n (bs.map slV) ∧ Hid (RowsP wr' w.heap.size g ol bs) ∧ n ≤ cap ∧ cap ≤ maxLen ∧ g ≠ ba ∧ Bx wr' ba [.int .i64 s.pId, .string s.pName, .int .i64 s.pX, .int .i64 s.pY, .int .i64 s.pGain, .int .i64 s.pLow, .int .i64 s.pHigh, .int .i64 s.pUntil] ∧ Below w.heap.size w wr')
      (fun _ i _ => xs.length - (intOf i).toNat)
    case atStart => exact ⟨0, n, g, ocap, ol, bs, by omega, rfl, rfl, Lib.hid (by rw [madeP_zero]; exact HO.out), hrow2, HRP2, hoc, hom, by omega, bA, hb2⟩
    case round =>
      clear hrow2 HRP2 HO hoc hom hb2 bA hsz hbal
      obtain ⟨m, n, g, ocap, ol, bs, hm, rfl, rfl, HO, hrow, HRP, hoc, hom, hgba, bA, hbl⟩ := hrel
      have hsz := hbl.size
      unfold maxLen at hom
      by_cases hlt2 : i0 + 1 + m < xs.length
      case neg =>
        have HO2 : Hid (ol = fullP xs (i0 + 1) ∧ ol.Pairwise ascP) := Lib.hid ⟨by rw [← madeP_end (m := m) HS.out (by omega)]; exact HO.out.1, HO.out.2⟩
        have hq9 : ¬ (m : Int) < (xs.length : Int) - ((i0 : Int) + 1) := by omega
        clear bA
        go_wp2
        go_roundw
        case rel => exact ⟨i0 + 1, n, g, ocap, ol, bs, by omega, by go_num, rfl, HO2, hrow, HRP, hoc, hom, hbl⟩
        case measure => simp [intOf]; omega
      obtain ⟨t, ht⟩ := get_of_lt hlt2
      obtain ⟨b2, off2, e2, -, hcell2⟩ := HC.out (i0 + 1 + m) t ht
      simp only [Option.some.injEq, Addr.mk.injEq, and_true] at e2
      obtain ⟨rfl, rfl⟩ := e2
      have gt := goodS_bounds (goodL_at HGL.out ht)
      have d0 : wr.cell? ⟨b1, off1 + (i0 + 1) * 8 + m * 8, none⟩ = some (.int .i64 t.pId) := by have h9 := cellOf hbl (by omega) (hcell2 0 _ rfl); rw [show off1 + (i0 + 1 + m) * 8 + 0 = off1 + (i0 + 1) * 8 + m * 8 + 0 by omega] at h9; exact h9
      have d1 : wr.cell? ⟨b1, off1 + (i0 + 1) * 8 + m * 8 + 1, none⟩ = some (.string t.pName) := by have h9 := cellOf hbl (by omega) (hcell2 1 _ rfl); rw [show off1 + (i0 + 1 + m) * 8 + 1 = off1 + (i0 + 1) * 8 + m * 8 + 1 by omega] at h9; exact h9
      have d2 : wr.cell? ⟨b1, off1 + (i0 + 1) * 8 + m * 8 + 2, none⟩ = some (.int .i64 t.pX) := by have h9 := cellOf hbl (by omega) (hcell2 2 _ rfl); rw [show off1 + (i0 + 1 + m) * 8 + 2 = off1 + (i0 + 1) * 8 + m * 8 + 2 by omega] at h9; exact h9
      have d3 : wr.cell? ⟨b1, off1 + (i0 + 1) * 8 + m * 8 + 3, none⟩ = some (.int .i64 t.pY) := by have h9 := cellOf hbl (by omega) (hcell2 3 _ rfl); rw [show off1 + (i0 + 1 + m) * 8 + 3 = off1 + (i0 + 1) * 8 + m * 8 + 3 by omega] at h9; exact h9
      have d4 : wr.cell? ⟨b1, off1 + (i0 + 1) * 8 + m * 8 + 4, none⟩ = some (.int .i64 t.pGain) := by have h9 := cellOf hbl (by omega) (hcell2 4 _ rfl); rw [show off1 + (i0 + 1 + m) * 8 + 4 = off1 + (i0 + 1) * 8 + m * 8 + 4 by omega] at h9; exact h9
      have d5 : wr.cell? ⟨b1, off1 + (i0 + 1) * 8 + m * 8 + 5, none⟩ = some (.int .i64 t.pLow) := by have h9 := cellOf hbl (by omega) (hcell2 5 _ rfl); rw [show off1 + (i0 + 1 + m) * 8 + 5 = off1 + (i0 + 1) * 8 + m * 8 + 5 by omega] at h9; exact h9
      have d6 : wr.cell? ⟨b1, off1 + (i0 + 1) * 8 + m * 8 + 6, none⟩ = some (.int .i64 t.pHigh) := by have h9 := cellOf hbl (by omega) (hcell2 6 _ rfl); rw [show off1 + (i0 + 1 + m) * 8 + 6 = off1 + (i0 + 1) * 8 + m * 8 + 6 by omega] at h9; exact h9
      have d7 : wr.cell? ⟨b1, off1 + (i0 + 1) * 8 + m * 8 + 7, none⟩ = some (.int .i64 t.pUntil) := by have h9 := cellOf hbl (by omega) (hcell2 7 _ rfl); rw [show off1 + (i0 + 1 + m) * 8 + 7 = off1 + (i0 + 1) * 8 + m * 8 + 7 by omega] at h9; exact h9
      have hq1 : (m : Int) < (xs.length : Int) - ((i0 : Int) + 1) := by omega
      have hq0 : (0 : Int) ≤ (m : Int) := by omega
      have hq2 : m < xs.length - (i0 + 1) := by omega
      have hbn : bs.length = n := by have := hrow.1; simpa using this
      have hn110 : n ≤ 110 := by rw [← hbn, HRP.out.len, HO.out.1]; exact madeP_len hlen (by omega)
      have HT := Lib.hid ht
      clear ht hcell2
      have bB := Bx.new wr [.int .i64 t.pId, .string t.pName, .int .i64 t.pX, .int .i64 t.pY, .int .i64 t.pGain, .int .i64 t.pLow, .int .i64 t.pHigh, .int .i64 t.pUntil] 36
      have hA4 := bA.alloc (.cells #[.int .i64 t.pId, .string t.pName, .int .i64 t.pX, .int .i64 t.pY, .int .i64 t.pGain, .int .i64 t.pLow, .int .i64 t.pHigh, .int .i64 t.pUntil] 36)
      have hrow4 := row_below hrow ((Below.refl wr.heap.size wr).alloc (Nat.le_refl _) (.cells #[.int .i64 t.pId, .string t.pName, .int .i64 t.pX, .int .i64 t.pY, .int .i64 t.pGain, .int .i64 t.pLow, .int .i64 t.pHigh, .int .i64 t.pUntil] 36))
      have hb4 := hbl.alloc hsz (.cells #[.int .i64 t.pId, .string t.pName, .int .i64 t.pX, .int .i64 t.pY, .int .i64 t.pGain, .int .i64 t.pLow, .int .i64 t.pHigh, .int .i64 t.pUntil] 36)
      have HRP4 := Lib.hid (HRP.out.below ((Below.refl wr.heap.size wr).alloc (Nat.le_refl _) (.cells #[.int .i64 t.pId, .string t.pName, .int .i64 t.pX, .int .i64 t.pY, .int .i64 t.pGain, .int .i64 t.pLow, .int .i64 t.pHigh, .int .i64 t.pUntil] 36)))
      have hz4 : wr.heap.size + 1 ≤ (wr.alloc (.cells #[.int .i64 t.pId, .string t.pName, .int .i64 t.pX, .int .i64 t.pY, .int .i64 t.pGain, .int .i64 t.pLow, .int .i64 t.pHigh, .int .i64 t.pUntil] 36)).heap.size := by simp
      obtain ⟨w4, hw4⟩ : ∃ W, wr.alloc (.cells #[.int .i64 t.pId, .string t.pName, .int .i64 t.pX, .int .i64 t.pY, .int .i64 t.pGain, .int .i64 t.pLow, .int .i64 t.pHigh, .int .i64 t.pUntil] 36) = W := ⟨_, rfl⟩
      obtain ⟨bb, hbb⟩ : ∃ b, wr.heap.size = b := ⟨_, rfl⟩
      rw [hw4] at bB hA4 hrow4 hb4 HRP4 hz4
      rw [hbb] at bB hz4
      have hgw := (hrow.lt g rfl)
      clear hrow HRP hbl bA
      have hgbb : g ≠ bb := by omega
      have hbab : w.heap.size ≤ bb := by omega
      have SS := Lib.hid (fun W => implSqG s t.pX t.pY W (by omega) (by omega) (by omega) (by omega))
      have HDS : Hid (dP (s, t) = sqd s t.pX t.pY) := Lib.hid rfl
      generalize sqd s t.pX t.pY = ds at *
      have hA5 : Bx w4.drew ba [.int .i64 s.pId, .string s.pName, .int .i64 s.pX, .int .i64 s.pY, .int .i64 s.pGain, .int .i64 s.pLow, .int .i64 s.pHigh, .int .i64 s.pUntil] := hA4
      have hB5 : Bx w4.drew bb [.int .i64 t.pId, .string t.pName, .int .i64 t.pX, .int .i64 t.pY, .int .i64 t.pGain, .int .i64 t.pLow, .int .i64 t.pHigh, .int .i64 t.pUntil] := bB
      have HSB := Lib.hid (show ∀ w', Bx w' ba [.int .i64 s.pId, .string s.pName, .int .i64 s.pX, .int .i64 s.pY, .int .i64 s.pGain, .int .i64 s.pLow, .int .i64 s.pHigh, .int .i64 s.pUntil] → Bx w' bb [.int .i64 t.pId, .string t.pName, .int .i64 t.pX, .int .i64 t.pY, .int .i64 t.pGain, .int .i64 t.pLow, .int .i64 t.pHigh, .int .i64 t.pUntil] → w'.cell? ⟨ba, 0, none⟩ = some (.int .i64 s.pId) ∧ w'.cell? ⟨ba, 1, none⟩ = some (.string s.pName) ∧ w'.cell? ⟨ba, 2, none⟩ = some (.int .i64 s.pX) ∧ w'.cell? ⟨ba, 3, none⟩ = some (.int .i64 s.pY) ∧ w'.cell? ⟨ba, 4, none⟩ = some (.int .i64 s.pGain) ∧ w'.cell? ⟨ba, 5, none⟩ = some (.int .i64 s.pLow) ∧ w'.cell? ⟨ba, 6, none⟩ = some (.int .i64 s.pHigh) ∧ w'.cell? ⟨ba, 7, none⟩ = some (.int .i64 s.pUntil) ∧ w'.cell? ⟨bb, 0, none⟩ = some (.int .i64 t.pId) ∧ w'.cell? ⟨bb, 2, none⟩ = some (.int .i64 t.pX) ∧ w'.cell? ⟨bb, 3, none⟩ = some (.int .i64 t.pY) from fun w' p q => ⟨p.2 0 _ rfl, p.2 1 _ rfl, p.2 2 _ rfl, p.2 3 _ rfl, p.2 4 _ rfl, p.2 5 _ rfl, p.2 6 _ rfl, p.2 7 _ rfl, q.2 0 _ rfl, q.2 2 _ rfl, q.2 3 _ rfl⟩)
      have hbs4 := HRP4.out.lt
      have hsz4 := hb4.size
      go_wp2
      clear hw4 d0 d1 d2 d3 d4 d5 d6 d7 c0 c1 c2 c3 c4 c5 c6 c7
      go_region_held3 (fun w' => w'.cell? ⟨ba, 0, none⟩ = some (.int .i64 s.pId) ∧ w'.cell? ⟨ba, 1, none⟩ = some (.string s.pName) ∧ w'.cell? ⟨ba, 2, none⟩ = some (.int .i64 s.pX) ∧ w'.cell? ⟨ba, 3, none⟩ = some (.int .i64 s.pY) ∧ w'.cell? ⟨ba, 4, none⟩ = some (.int .i64 s.pGain) ∧ w'.cell? ⟨ba, 5, none⟩ = some (.int .i64 s.pLow) ∧ w'.cell? ⟨ba, 6, none⟩ = some (.int .i64 s.pHigh) ∧ w'.cell? ⟨ba, 7, none⟩ = some (.int .i64 s.pUntil) ∧ w'.cell? ⟨bb, 0, none⟩ = some (.int .i64 t.pId) ∧ w'.cell? ⟨bb, 2, none⟩ = some (.int .i64 t.pX) ∧ w'.cell? ⟨bb, 3, none⟩ = some (.int .i64 t.pY))
        (first
          | exact HSB.out _ (by with_reducible assumption) (by with_reducible assumption))
        (first
          | (go_at_call 72; (with_reducible refine (SS.out _).mono ?_); rintro e w5 ⟨rfl, hg5⟩; have B5 : Below w4.heap.size w4 w5 := ((Below.refl w4.heap.size w4).drew).trans hg5.below; have z5 := B5.size; have bA5 := hA4.below B5; have bB5 := bB.below B5; have bAT := bA5.alloc (.cells #[.int .i64 s.pId, .int .i64 t.pId, .int .i64 ds] 3); have bBT := bB5.alloc (.cells #[.int .i64 s.pId, .int .i64 t.pId, .int .i64 ds] 3); have bAV := bAT.alloc (.cells #[.slice (some ⟨w5.heap.size, 0, none⟩) 3 3] 27); have bBV := bBT.alloc (.cells #[.slice (some ⟨w5.heap.size, 0, none⟩) 3 3] 27); have bxT : Bx ((w5.alloc (.cells #[.int .i64 s.pId, .int .i64 t.pId, .int .i64 ds] 3)).alloc (.cells #[.slice (some ⟨w5.heap.size, 0, none⟩) 3 3] 27)) w5.heap.size [.int .i64 s.pId, .int .i64 t.pId, .int .i64 ds] := (Bx.new w5 [.int .i64 s.pId, .int .i64 t.pId, .int .i64 ds] 3).alloc (.cells #[.slice (some ⟨w5.heap.size, 0, none⟩) 3 3] 27); have bxV : Bx ((w5.alloc (.cells #[.int .i64 s.pId, .int .i64 t.pId, .int .i64 ds] 3)).alloc (.cells #[.slice (some ⟨w5.heap.size, 0, none⟩) 3 3] 27)) (w5.heap.size + 1) [.slice (some ⟨w5.heap.size, 0, none⟩) 3 3] := Bx.new1 w5 (.cells #[.int .i64 s.pId, .int .i64 t.pId, .int .i64 ds] 3) [.slice (some ⟨w5.heap.size, 0, none⟩) 3 3] 27; have rowV := ((row_below hrow4 B5).alloc (.cells #[.int .i64 s.pId, .int .i64 t.pId, .int .i64 ds] 3)).alloc (.cells #[.slice (some ⟨w5.heap.size, 0, none⟩) 3 3] 27))
          | (refine step_append_srcK ((w5.alloc (.cells #[.int .i64 s.pId, .int .i64 t.pId, .int .i64 ds] 3)).alloc (.cells #[.slice (some ⟨w5.heap.size, 0, none⟩) 3 3] 27)) (by rfl) _ _ _ (by rfl) w.heap.size 27 ti (.slice none 0 0) 1 24 Try.underlying47 hi hz0 hz1 hz2 rfl (by decide) (.slice (some ⟨g, 0, none⟩) n ocap) n (bs.map slV) (by rfl) rowV _ 1 [.slice (some ⟨w5.heap.size, 0, none⟩) 3 3] (by rfl) (srcK_box bxV (by intro u hu; simp only [List.mem_singleton] at hu; subst hu; rfl)) (by unfold maxLen; omega) (by omega) (by simp; omega) ?_; intro v7 w7 hr7 hg7 hat7; have bA7 := bAV.grown hg7 (fun e => hgba (Option.some.inj e).symm); have bB7 := bBV.grown hg7 (fun e => hgbb (Option.some.inj e).symm)))
      have bT7 := bxT.grown hg7 (fun e => by have h9 : w5.heap.size = g := Option.some.inj e; omega)
      have RP5 := ((HRP4.out.below B5).below ((Below.refl w5.heap.size w5).alloc (Nat.le_refl _) (.cells #[.int .i64 s.pId, .int .i64 t.pId, .int .i64 ds] 3))).below ((Below.refl (w5.alloc (.cells #[.int .i64 s.pId, .int .i64 t.pId, .int .i64 ds] 3)).heap.size (w5.alloc (.cells #[.int .i64 s.pId, .int .i64 t.pId, .int .i64 ds] 3))).alloc (Nat.le_refl _) (.cells #[.slice (some ⟨w5.heap.size, 0, none⟩) 3 3] 27))
      have RP6 := RP5.grown hg7 (fun b hb e => by have h9 : b = g := Option.some.inj e; subst h9; exact HRP4.out.ne hb)
      have hb7 : Below w.heap.size w w7 := (((hb4.trans (B5.mono hsz4)).alloc (by omega) (.cells #[.int .i64 s.pId, .int .i64 t.pId, .int .i64 ds] 3)).alloc (by simp; omega) (.cells #[.slice (some ⟨w5.heap.size, 0, none⟩) 3 3] 27)).grown hg7 (by simp; omega) (fun q hq => by cases hq; exact hgw.1)
      obtain ⟨g7, cap7, rfl, hc7, hm7, hL7, hg7'⟩ := row_some hr7 (by omega)
      have hg9 : g7 = g ∨ g7 = w5.heap.size + 1 + 1 := by
        rcases hat7 with e | e
        · exact Or.inl (Option.some.inj e)
        · have := Option.some.inj e; simp at this; exact Or.inr this
      have RP7 := Lib.hid (rowsP_snoc (p := (s, t)) RP6 (by unfold cellsP; rw [HDS.out]; exact bT7) (fun b hb => by have := hbs4 b hb; omega) (by omega) (by omega) (fun hb => by
        rcases hg9 with e | e
        · rw [e] at hb; exact HRP4.out.ne hb
        · have := hbs4 _ hb; omega) (g7 := g7))
      have HO2 : Hid (ol ++ [(s, t)] = madeP xs s i0 (m + 1) ∧ (ol ++ [(s, t)]).Pairwise ascP) := Lib.hid ⟨by rw [madeP_succ HT.out, ← HO.out.1], asc_snoc HO.out.2 (fun q hq => madeP_asc HGL.out HS.out HT.out (by rw [← HO.out.1]; exact hq))⟩
      have hr8 : w7.ownsRow w.heap.size 27 1 (.slice (some ⟨g7, 0, none⟩) (n + 1) cap7) (n + 1) ((bs ++ [w5.heap.size]).map slV) := by rw [List.map_append]; exact hr7
      have hbal := hA4.1.1
      have hgb7 : g7 ≠ ba := by omega
      clear hr7 RP5 RP6 hat7 hg7 bT7 bxT bxV rowV bAV bBV bAT bBT bA5 bB5 bB7 HSB SS
      go_wp2
      go_roundw
      case rel => exact ⟨m + 1, n + 1, g7, cap7, _, _, by omega, by go_num, rfl, HO2, hr8, RP7, hc7, hm7, hgb7, bA7, hb7⟩
      case measure => simp [intOf]; omega
end Go.Proofs.Ytjiaejempfhheaa
