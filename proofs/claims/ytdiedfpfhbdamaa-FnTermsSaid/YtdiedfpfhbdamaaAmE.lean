/- Amplitudes: the specification's median. -/
import Derived.Test.YtdiedfpfhbdamaaAmC
import Derived.Test.YtdiedfpfhbdamaaIns
import Derived.Deep.RegionHeld3
import Derived.Deep.CutBlock
import Derived.Deep.CutRange
namespace Go.Proofs.Ytdiedfpfhbdamaa
open Go.ChangeShapes Go.WideShapes Go.ChangeAt Go.RowKit Go.ChangeMaps Go.Sort
set_option linter.unusedSimpArgs false
set_option linter.unusedVariables false
set_option linter.unusedSimpArgs false
set_option linter.unusedVariables false

theorem oneInts (o : List Int) : ∀ u ∈ o.map (Value.int .i64), u.oneCell' = true := by
  intro u hu
  obtain ⟨x, _, rfl⟩ := List.mem_map.1 hu
  rfl
/-- What came, sorted. -/
def SrX (src o : List Int) : Prop := o.Pairwise (· ≤ ·) ∧ o.Perm src
theorem SrX.step {src o : List Int} {p : Nat} {x : Int} (h : SrX src o) (hp : p ≤ o.length) (h1 : p = 0 ∨ ∃ y, o[p - 1]? = some y ∧ y ≤ x) (h2 : ∀ y ∈ o.drop p, x < y) : SrX (src ++ [x]) (o.take p ++ x :: o.drop p) := by
  refine ⟨ins_pw h.1 hp ?_ (fun y hy => by have := h2 y hy; omega), (ins_perm o x p).trans (h.2.append_right [x])⟩
  intro y hy
  rcases h1 with rfl | ⟨z, hz, hzx⟩
  · simp at hy
  · by_cases h0 : p = 0
    · subst h0; simp at hy
    · have := pw_take h.1 hz y (by rw [show p - 1 + 1 = p by omega]; exact hy)
      omega
theorem drop_moreX {o : List Int} {p : Nat} {x y : Int} (hp : 0 < p) (hy : o[p - 1]? = some y) (h : x < y) (h2 : ∀ y ∈ o.drop p, x < y) : ∀ y ∈ o.drop (p - 1), x < y := by
  intro z hz
  have hl := (List.getElem?_eq_some_iff.1 hy).1
  rw [List.drop_eq_getElem_cons hl, show p - 1 + 1 = p by omega] at hz
  rcases List.mem_cons.1 hz with rfl | hz
  · rw [(List.getElem?_eq_some_iff.1 hy).2]; exact h
  · exact h2 z hz
theorem SrX.end {src o : List Int} (h : SrX src o) : o = srt src := srt_uniq h.2 h.1
theorem md_eq (t : List GTableRow) (l : List GSwing) (b c : Bool) (hb : goodTb t = b) (hc : goodSw l = c) : okMd t l = (b && (c && decide (0 < (magsV t l).length))) := by unfold okMd; rw [hb, hc]
theorem mags_yes {t : List GTableRow} {l : List GSwing} {k : Nat} {s : GSwing} (h : l[k]? = some s) (e : hasM t s = true) : magsV t (l.take (k + 1)) = magsV t (l.take k) ++ [magV t s] := by rw [magsV_take h, if_pos e]
theorem mags_no {t : List GTableRow} {l : List GSwing} {k : Nat} {s : GSwing} (h : l[k]? = some s) (e : hasM t s = false) : magsV t (l.take (k + 1)) = magsV t (l.take k) := by rw [magsV_take h, if_neg (by rw [e]; simp)]
theorem row_cell {w : World} {base n : Nat} {e : TypeId} {g cap : Nat} {o : List Int} (h : w.ownsRow base e 1 (.slice (some ⟨g, 0, none⟩) n cap) n (o.map (Value.int .i64))) {j : Nat} {y : Int} (hj : o[j]? = some y) : w.cell? ⟨g, j, none⟩ = some (.int .i64 y) := by
  have h2 := h.cells (g := g) rfl j (.int .i64 y) (by rw [List.getElem?_map, hj]; rfl)
  rw [Addr.add_lit, Nat.zero_add] at h2
  exact h2
set_option maxRecDepth 100000 in
set_option maxHeartbeats 4000000 in
theorem specMd (t : List GTableRow) (v : Value) (l : List GSwing) (v2 : Value) (w : World) (B : Nat) (h : TableRowL w B v t) (h2 : SwingL w B v2 l) (hB : B ≤ w.heap.size) (hn : szsTableRow t ≤ 1048576) (hn2 : szsSwing l ≤ 1048576) (hw : ∀ s ∈ t, wfTableRow s) (hw2 : ∀ s ∈ l, wfSwing s) :
    Calls Try.prog 41 #[v, v2] w fun e w' => e = .returned (.tuple #[.int .i64 (numMd t l), .bool (okMd t l)]) ∧ Below w.heap.size w w' := by
  have CT := Lib.hid (fun u hu => specTab t v u w B h hB (Nat.le_trans (szsTableRow_len t) hn) hu)
  have CW := Lib.hid (fun u W (q : Below w.heap.size w W) hu => specGoodW l v2 u W B (h2.below (q.mono hB)) (Nat.le_trans hB q.size) (Nat.le_trans (szsSwing_len l) hn2) hu)
  cases h1 : goodTb t with
  | false =>
    have C1 := Lib.hid (CT.out false h1)
    have ek := md_eq t l _ _ h1 rfl
    rw [Bool.false_and] at ek
    have HF := Lib.hid (retN (numMd_no ek).symm ek.symm)
    obtain ⟨ao, cap, rfl⟩ := h.form
    obtain ⟨ao2, cap2, rfl⟩ := h2.form
    clear h h2 ek h1
    go_enter Try.func41, Try.ntmps41
    go_wp2_with fail
    refine C1.out.mono ?_
    rintro e w1 ⟨rfl, hb⟩
    go_wp2
    go_ret2
    exact ⟨HF.out, hb⟩
  | true =>
  have C1 := Lib.hid (CT.out true h1)
  cases h3 : goodSw l with
  | false =>
    have C2 := Lib.hid (fun W q => CW.out false W q h3)
    have ek := md_eq t l _ _ h1 h3
    rw [Bool.false_and, Bool.and_false] at ek
    have HF := Lib.hid (retN (numMd_no ek).symm ek.symm)
    obtain ⟨ao, cap, rfl⟩ := h.form
    obtain ⟨ao2, cap2, rfl⟩ := h2.form
    clear h h2 ek h1 h3
    go_enter Try.func41, Try.ntmps41
    go_wp2_with fail
    refine C1.out.mono ?_
    rintro e w1 ⟨rfl, hb⟩
    go_wp2_with fail
    refine (C2.out _ hb).mono ?_
    rintro e w2 ⟨rfl, hb2⟩
    go_wp2
    go_ret2
    exact ⟨HF.out, hb.trans (hb2.mono hb.size)⟩
  | true =>
  have C2 := Lib.hid (fun W q => CW.out true W q h3)
  have hok := goodTb_yes h1
  have hos := goodSw_yes h3
  have ek := md_eq t l _ _ h1 h3
  rw [Bool.true_and, Bool.true_and] at ek
  have HE := Lib.hid ek
  have CM := Lib.hid (fun s (W : World) (q : Below w.heap.size w W) (hs : okSw s) => specMag t v s W B (h.below (q.mono hB)) (Nat.le_trans hB q.size) hok hs)
  obtain ⟨ti, hi, hz0, hz1, hz2⟩ := info_parts infoInt
  have HOS := Lib.hid hos
  have HOK := Lib.hid hok
  have hl10 := hos.2
  obtain ⟨ao, cap, rfl⟩ := h.form
  obtain ⟨ao2, cap2, rfl, hcap2, hmax2, -, hc2⟩ := h2
  have HC := Lib.hid hc2
  clear h hc2 h1 h3 ek hok hos hw hw2 hn hn2
  go_enter Try.func41, Try.ntmps41
  go_wp2_with fail
  refine C1.out.mono ?_
  rintro e w1 ⟨rfl, hb⟩
  go_wp2_with fail
  refine (C2.out _ hb).mono ?_
  rintro e w2 ⟨rfl, hb2⟩
  have N2 := hb.trans (hb2.mono hb.size)
  clear hb hb2
  have hrow0 := row_empty w2 (base := w.heap.size) 3 1 N2.size
  have N3 : Below w.heap.size w (w2.alloc (.cells #[] 3)) := N2.alloc N2.size _
  go_wp2
  go_loopw [6, 7, 8, 9, 10] (fun ov i _ _ _ wr => ∃ (k c g oc : Nat) (o : List Int), k ≤ l.length ∧ i = .int .i64 k ∧ ov = .slice (some ⟨g, 0, none⟩) c oc ∧ c ≤ oc ∧ oc ≤ 9223372036854775807 ∧ Hid (SrX (magsV t (l.take k)) o) ∧ Hid (o.length = c) ∧ wr.ownsRow w.heap.size 3 1 ov c (o.map (Value.int .i64)) ∧ Below w.heap.size w wr) (fun _ i _ _ _ _ => l.length - (intOf i).toNat)
  case atStart => exact ⟨0, 0, _, 0, [], Nat.zero_le _, rfl, rfl, Nat.le_refl _, by omega, Lib.hid ⟨List.Pairwise.nil, by simp [magsV]⟩, Lib.hid rfl, by simpa using hrow0, N3⟩
  case round =>
    obtain ⟨k, c, g, oc, o, hk, rfl, rfl, hco, hoc, HS, HOL, hrow, hbl⟩ := hrel
    have hck : c ≤ k := by
      have e1 := HS.out.2.length_eq
      have e2 := magsV_len t (l.take k)
      rw [HOL.out] at e1
      rw [List.length_take] at e2
      omega
    have hsz := hbl.size
    by_cases hlt : k < l.length
    case neg =>
      obtain rfl : k = l.length := by omega
      have hse : SrX (magsV t l) o := by have := HS.out; rwa [List.take_length] at this
      have hol := HOL.out
      have hml : (magsV t l).length = c := by rw [← hse.2.length_eq]; exact hol
      by_cases hc0 : c = 0
      · have HF : Hid (Ending.returned (.tuple #[.int .i64 0, .bool false]) = .returned (.tuple #[.int .i64 (numMd t l), .bool (okMd t l)])) := Lib.hid (by
          have e9 := HE.out
          rw [hml, decide_eq_false (by omega)] at e9
          exact retN (numMd_no e9).symm e9.symm)
        subst hc0
        clear hse hol hml
        go_wp2
        go_ret2
        exact ⟨HF.out, hbl⟩
      · have HF : Hid (Ending.returned (.tuple #[.int .i64 (medV t l), .bool true]) = .returned (.tuple #[.int .i64 (numMd t l), .bool (okMd t l)])) := Lib.hid (by
          have e9 := HE.out
          rw [hml, decide_eq_true (by omega)] at e9
          exact retN (numMd_yes e9).symm e9.symm)
        have hmg := mid_get (l := magsV t l) (by omega)
        rw [← hse.end, hml] at hmg
        have hcell := row_cell hrow hmg
        have hmv : medV t l = mid (magsV t l) := rfl
        rw [← hmv] at hcell
        generalize medV t l = mv at *
        obtain ⟨mm, hmm⟩ : ∃ mm, (c - 1) / 2 = mm := ⟨_, rfl⟩
        rw [hmm] at hcell
        have d1 : ((c : Int) - 1).tdiv 2 = (mm : Int) := by rw [Int.tdiv_eq_ediv_of_nonneg (by omega), ← hmm]; omega
        have s4 : IntKind.i64.wrap ((c : Int) - 1) = (c : Int) - 1 := IntWalk.i64_in _ (by omega)
        have s5 : IntKind.i64.wrap (mm : Int) = (mm : Int) := IntWalk.i64_in _ (by omega)
        have i0 : (0 : Int) ≤ (mm : Int) := by omega
        have i1 : (mm : Int) < (c : Int) := by omega
        have i2 : ¬ (c : Int) = 0 := by omega
        have i3 : ((c : Int) == 0) = false := by simp; omega
        clear hse hol hml hmg hmm hmv
        go_wp2
        go_ret2
        exact ⟨HF.out, hbl⟩
    obtain ⟨s, hs⟩ := get_of_lt hlt
    have hss := HOS.out.1.1 k s hlt hs
    obtain ⟨b, off, rfl, hbb, hcell⟩ := HC.out k s hs
    have c0 : wr.cell? ⟨b, off + k * 4, none⟩ = some (.int .i64 s.pStation) := cellOf hbl (by omega) (hcell 0 _ rfl)
    have c1 : wr.cell? ⟨b, off + k * 4 + 1, none⟩ = some (.int .i64 s.pFar) := cellOf hbl (by omega) (hcell 1 _ rfl)
    have c2 : wr.cell? ⟨b, off + k * 4 + 2, none⟩ = some (.int .i64 s.pWidth) := cellOf hbl (by omega) (hcell 2 _ rfl)
    have c3 : wr.cell? ⟨b, off + k * 4 + 3, none⟩ = some (.int .i64 s.pTerm) := cellOf hbl (by omega) (hcell 3 _ rfl)
    have hi0 : (0 : Int) ≤ (k : Int) := by omega
    have hi1 : (k : Int) < (l.length : Int) := by omega
    have hi2 : (l.length : Int) ≤ 10 := by omega
    have CMS := Lib.hid (CM.out s wr hbl hss)
    have HT := Lib.hid hs
    clear hcell hss hs
    cases hh : hasM t s with
    | false =>
      have e1 := CMS.out
      rw [hh] at e1
      simp only [Bool.false_eq_true, if_false] at e1
      have CN := Lib.hid e1
      have HS2 : Hid (SrX (magsV t (l.take (k + 1))) o) := Lib.hid (by rw [mags_no HT.out hh]; exact HS.out)
      clear e1 CMS hh
      go_wp2_with fail
      refine CN.out.mono ?_
      rintro e w4 ⟨rfl, hb4⟩
      have hrow4 := row_below hrow hb4
      have hbl4 := hbl.trans (hb4.mono hsz)
      clear c0 c1 c2 c3
      go_wp2
      go_roundw
      case rel => exact ⟨k + 1, c, g, oc, o, by omega, by go_num, rfl, hco, hoc, HS2, HOL, hrow4, hbl4⟩
      case measure => simp [intOf]; omega
    | true =>
      have e1 := CMS.out
      rw [hh] at e1
      simp only [if_true] at e1
      obtain ⟨x, hx⟩ : ∃ x, magV t s = x := ⟨_, rfl⟩
      rw [hx] at e1
      have CN := Lib.hid e1
      have HMY : Hid (magsV t (l.take (k + 1)) = magsV t (l.take k) ++ [x]) := Lib.hid (by rw [← hx]; exact mags_yes HT.out hh)
      clear e1 CMS hh hx
      go_wp2_with fail
      refine CN.out.mono ?_
      rintro e w4 ⟨rfl, hb4⟩
      have hrow3 := row_below hrow hb4
      have hbl3 := hbl.trans (hb4.mono hsz)
      clear c0 c1 c2 c3 hrow hbl hb4
      have hc10 : c ≤ 10 := by omega
      go_upto_block 2 with fail
      go_cut [10] from 20 to 63 (fun q wx => ∃ m : Nat, m ≤ c ∧ q = .int .i64 m ∧ Hid (∀ y ∈ o.drop m, x < y) ∧ Hid (m = 0 ∨ ∃ y, o[m - 1]? = some y ∧ y ≤ x) ∧ wx = w4)
      case first =>
        go_wp2
        go_loopw [10] (fun q wx => ∃ m : Nat, m ≤ c ∧ q = .int .i64 m ∧ Hid (∀ y ∈ o.drop m, x < y) ∧ wx = w4) (fun q _ => (intOf q).toNat)
        case atStart => exact ⟨c, Nat.le_refl _, rfl, Lib.hid (by rw [List.drop_of_length_le (by rw [HOL.out]; exact Nat.le_refl _)]; simp), rfl⟩
        case round =>
          obtain ⟨m, hm, rfl, HD, rfl⟩ := hrel
          by_cases hm0 : m = 0
          case pos =>
            have HQ : Hid (m = 0 ∨ ∃ y, o[m - 1]? = some y ∧ y ≤ x) := Lib.hid (Or.inl hm0)
            have g1 : ¬ (0 : Int) < (m : Int) := by omega
            have g2 : decide ((0 : Int) < (m : Int)) = false := decide_eq_false g1
            go_wp2
            go_meet
            subst hm0
            exact ⟨0, Nat.zero_le _, rfl, HD, HQ, by first | rfl | trivial⟩
          obtain ⟨j, hj⟩ : ∃ j, m - 1 = j := ⟨_, rfl⟩
          obtain ⟨y, hy⟩ := get_of_lt (l := o) (k := j) (by rw [HOL.out]; omega)
          have hcy := row_cell hrow3 hy
          have s1 : IntKind.i64.wrap ((m : Int) - 1) = (j : Int) := by rw [IntWalk.i64_in _ (by omega)]; omega
          have s2 : wrap64 ((m : Int) - 1) = (j : Int) := by unfold wrap64; omega
          have i2 : (0 : Int) ≤ (j : Int) := by omega
          have i3 : (j : Int) < (c : Int) := by omega
          have i4 : (0 : Int) < (m : Int) := by omega
          have i5 : decide ((0 : Int) < (m : Int)) = true := decide_eq_true i4
          have HY := Lib.hid hy
          have HJ := Lib.hid hj
          clear hy hj
          by_cases hxy : x < y
          · have HD2 : Hid (∀ y ∈ o.drop j, x < y) := Lib.hid (by have := drop_moreX (p := m) (y := y) (by omega) (by rw [HJ.out]; exact HY.out) hxy HD.out; rwa [HJ.out] at this)
            have hjm : j + 1 = m := by have := HJ.out; omega
            have HJM := Lib.hid hjm
            clear hjm
            go_wp2
            go_roundw
            case rel => exact ⟨j, by have := HJM.out; omega, by have := HJM.out; go_num, HD2, by first | rfl | trivial⟩
            case measure => have := HJM.out; simp [intOf]; omega
          · have HQ : Hid (m = 0 ∨ ∃ y, o[m - 1]? = some y ∧ y ≤ x) := Lib.hid (Or.inr ⟨y, by rw [HJ.out]; exact HY.out, by omega⟩)
            go_wp2
            go_meet
            exact ⟨m, hm, rfl, HD, HQ, by first | rfl | trivial⟩
      case rest =>
        obtain ⟨m, hm, rfl, HD, HQ, rfl⟩ := hcut
        rename World => W3
        have HS2 : Hid (SrX (magsV t (l.take (k + 1))) (o.take m ++ x :: o.drop m)) := Lib.hid (by rw [HMY.out]; exact HS.out.step (by rw [HOL.out]; exact hm) HQ.out HD.out)
        clear HD HQ HMY
        have kp0 : (0 : Int) ≤ (m : Int) := by omega
        have kp1 : (m : Int) ≤ (c : Int) := by omega
        have kp2 : (m : Int) ≤ (oc : Int) := by omega
        have kp3 : m ≤ oc := by omega
        by_cases hcm : m = oc
        case pos =>
          have hcc : c = m := by omega
          subst hcc
          subst hcm
          have KA : Below W3.heap.size W3 (W3.alloc (.cells #[] 3)).drew := ((Below.refl _ _).alloc (Nat.le_refl _) _).drew
          have KA1 : Below W3.heap.size W3 ((W3.alloc (.cells #[] 3)).alloc (.cells #[.int .i64 x] 3)).drew := (((Below.refl _ _).alloc (Nat.le_refl _) _).alloc (by first | omega | (simp; done) | (simp; omega)) _).drew
          have KB : Below W3.heap.size W3 (W3.alloc (.cells #[.int .i64 x] 3)).drew := ((Below.refl _ _).alloc (Nat.le_refl _) _).drew
          have KB0 : Below W3.heap.size W3 ((W3.alloc (.cells #[.int .i64 x] 3)).alloc (.cells #[] 3)).drew := (((Below.refl _ _).alloc (Nat.le_refl _) _).alloc (by first | omega | (simp; done) | (simp; omega)) _).drew
          have rA : (W3.alloc (.cells #[] 3)).drew.ownsRow W3.heap.size 3 1 (.slice (some ⟨W3.heap.size, 0, none⟩) 0 0) 0 [] := rowK_empty W3 _ _ (Nat.le_refl _)
          have rA1 : ((W3.alloc (.cells #[] 3)).alloc (.cells #[.int .i64 x] 3)).drew.ownsRow W3.heap.size 3 1 (.slice (some ⟨W3.heap.size, 0, none⟩) 0 0) 0 [] := (rowK_empty W3 _ _ (Nat.le_refl _)).alloc _
          have rB0 : ((W3.alloc (.cells #[.int .i64 x] 3)).alloc (.cells #[] 3)).drew.ownsRow W3.heap.size 3 1 (.slice (some ⟨W3.heap.size + 1, 0, none⟩) 0 0) 0 [] := by
            have h9 : ((W3.alloc (.cells #[.int .i64 x] 3)).alloc (.cells #[] 3)).ownsRow W3.heap.size 3 1 (.slice (some ⟨W3.heap.size + 1, 0, none⟩) 0 0) 0 [] := by
              have := rowK_empty (W3.alloc (.cells #[.int .i64 x] 3)) (base := W3.heap.size) 3 1 (by first | omega | (simp; done) | (simp; omega))
              simpa using this
            exact h9
          have bA1 : Bx ((W3.alloc (.cells #[] 3)).alloc (.cells #[.int .i64 x] 3)).drew (W3.heap.size + 1) [.int .i64 x] := Bx.new1 W3 (.cells #[] 3) [.int .i64 x] 3
          have bB0 : Bx ((W3.alloc (.cells #[.int .i64 x] 3)).alloc (.cells #[] 3)).drew W3.heap.size [.int .i64 x] := (Bx.new W3 [.int .i64 x] 3).alloc _
          have one0 : ∀ u ∈ o.map (Value.int .i64), u.oneCell' = true := oneInts o
          have Q1 : Hid (SrcK W3 1 (.slice (some ⟨g, 0, none⟩) c c) c ((o.take c).map (Value.int .i64))) := Lib.hid (by
            have := row_part hrow3 one0 0 c c (Nat.zero_le _) (by omega)
            simpa using this)
          have Q2 : Hid (SrcK W3 1 (.slice (some ⟨g, 0, none⟩) 0 0) (0) ((o.drop c).map (Value.int .i64))) := Lib.hid (by
            rw [List.drop_of_length_le (by rw [HOL.out]; exact Nat.le_refl _)]
            exact srcK_nil _ _ _ _)
          have ONE : Hid (∀ u ∈ [Value.int .i64 x], u.oneCell' = true) := Lib.hid (by intro u hu; simp only [List.mem_singleton] at hu; subst hu; rfl)
          have HS0 : Hid (Below W3.heap.size W3 W3.drew) := Lib.hid (Below.refl _ _).drew
          clear one0
          go_wp2
          go_region_held3 (fun w' => Below W3.heap.size W3 w')
            (first
              | exact HS0.out
              | (with_reducible assumption))
            (first
              | (refine step_append_srcK (((W3.alloc (.cells #[] 3)).alloc (.cells #[.int .i64 x] 3)).drew) (by first | rfl | kernel_rfl) _ _ _ (by rfl) W3.heap.size 3 ti (.int .i64 0) 1 8 Try.underlying29 hi hz0 hz1 hz2 rfl (by decide) _ (0) ([]) (by rfl) (rA1) _ (c) _ (by rfl) (Q1.out.below KA1) (by unfold maxLen; omega) (by omega) (by first | omega | (simp; done) | (simp; omega)) ?_; intro v5 w5 hr5 hg5 hat5; have B5 : Below W3.heap.size W3 w5 := Below.grown KA1 hg5 (by first | omega | (simp; done) | (simp; omega)) (by intro q hq; cases hq; simp); have r5 : w5.ownsRow W3.heap.size 3 1 v5 c ((o.take c).map (Value.int .i64)) := (by simpa using hr5); have z5 := B5.size; have b5 := bA1.grown (row := some W3.heap.size) hg5 (by simp); clear hr5 hg5 hat5)
              | (refine step_append_srcK (((W3.alloc (.cells #[.int .i64 x] 3)).alloc (.cells #[] 3)).drew) (by first | rfl | kernel_rfl) _ _ _ (by rfl) W3.heap.size 3 ti (.int .i64 0) 1 8 Try.underlying29 hi hz0 hz1 hz2 rfl (by decide) _ (0) ([]) (by rfl) (rB0) _ (c) _ (by rfl) (Q1.out.below KB0) (by unfold maxLen; omega) (by omega) (by first | omega | (simp; done) | (simp; omega)) ?_; intro v5 w5 hr5 hg5 hat5; have B5 : Below W3.heap.size W3 w5 := Below.grown KB0 hg5 (by first | omega | (simp; done) | (simp; omega)) (by intro q hq; cases hq; simp); have r5 : w5.ownsRow W3.heap.size 3 1 v5 c ((o.take c).map (Value.int .i64)) := (by simpa using hr5); have z5 := B5.size; have b5 := bB0.grown (row := some (W3.heap.size + 1)) hg5 (by simp); clear hr5 hg5 hat5)
              | (refine step_append_srcK ((W3.alloc (.cells #[] 3)).drew) (by first | rfl | kernel_rfl) _ _ _ (by rfl) W3.heap.size 3 ti (.int .i64 0) 1 8 Try.underlying29 hi hz0 hz1 hz2 rfl (by decide) _ (0) ([]) (by rfl) (rA) _ (c) _ (by rfl) (Q1.out.below KA) (by unfold maxLen; omega) (by omega) (by first | omega | (simp; done) | (simp; omega)) ?_; intro v5 w5 hr5 hg5 hat5; have B5 : Below W3.heap.size W3 w5 := Below.grown KA hg5 (by first | omega | (simp; done) | (simp; omega)) (by intro q hq; cases hq; simp); have r5 : w5.ownsRow W3.heap.size 3 1 v5 c ((o.take c).map (Value.int .i64)) := (by simpa using hr5); have z5 := B5.size; have K5 : Below W3.heap.size W3 (w5.alloc (.cells #[.int .i64 x] 3)) := B5.alloc B5.size _; have b5V : Bx (w5.alloc (.cells #[.int .i64 x] 3)) w5.heap.size [.int .i64 x] := Bx.new w5 [.int .i64 x] 3; clear hr5 hg5 hat5)
              | (refine step_append_srcK (w5) (by first | rfl | kernel_rfl) _ _ _ (by rfl) W3.heap.size 3 ti (.int .i64 0) 1 8 Try.underlying29 hi hz0 hz1 hz2 rfl (by decide) _ (c) ((o.take c).map (Value.int .i64)) (by rfl) (r5) _ (1) _ (by rfl) (srcK_box b5 ONE.out) (by unfold maxLen; omega) (by omega) (z5) ?_; intro v6 w6 hr6 hg6 hat6; have B6 : Below W3.heap.size W3 w6 := Below.grown B5 hg6 (by first | omega | (simp; done) | (simp; omega)) (fun q hq => (r5.lt q hq).1); have r6 : w6.ownsRow W3.heap.size 3 1 v6 (c + 1) ((o.take c).map (Value.int .i64) ++ [.int .i64 x]) := (by simpa using hr6); have z6 := B6.size; clear hr6 hg6 hat6)
              | (refine step_append_srcK (w5.alloc (.cells #[.int .i64 x] 3)) (by first | rfl | kernel_rfl) _ _ _ (by rfl) W3.heap.size 3 ti (.int .i64 0) 1 8 Try.underlying29 hi hz0 hz1 hz2 rfl (by decide) _ (c) ((o.take c).map (Value.int .i64)) (by rfl) (r5.alloc _) _ (1) _ (by rfl) (srcK_box b5V ONE.out) (by unfold maxLen; omega) (by omega) (by first | omega | (simp; done) | (simp; omega)) ?_; intro v6 w6 hr6 hg6 hat6; have B6 : Below W3.heap.size W3 w6 := Below.grown K5 hg6 (by first | omega | (simp; done) | (simp; omega)) (fun q hq => (r5.lt q hq).1); have r6 : w6.ownsRow W3.heap.size 3 1 v6 (c + 1) ((o.take c).map (Value.int .i64) ++ [.int .i64 x]) := (by simpa using hr6); have z6 := B6.size; clear hr6 hg6 hat6)
              | (refine step_append_srcK (w6) (by first | rfl | kernel_rfl) _ _ _ (by rfl) W3.heap.size 3 ti (.int .i64 0) 1 8 Try.underlying29 hi hz0 hz1 hz2 rfl (by decide) _ (c + 1) ((o.take c).map (Value.int .i64) ++ [.int .i64 x]) (by rfl) (r6) _ (0) _ (by rfl) (Q2.out.below B6) (by unfold maxLen; omega) (by omega) (z6) ?_; intro v7 w7 hr7 hg7 hat7; have B7 : Below W3.heap.size W3 w7 := Below.grown B6 hg7 (by first | omega | (simp; done) | (simp; omega)) (fun q hq => (r6.lt q hq).1); have r7 : w7.ownsRow W3.heap.size 3 1 v7 (c + 1 + (0)) ((o.take c).map (Value.int .i64) ++ .int .i64 x :: (o.drop c).map (Value.int .i64)) := (by simpa using hr7); have z7 := B7.size; clear hr7 hg7 hat7))
          all_goals
            have h71 : c + 1 + (0) = c + 1 := by omega
            rw [h71] at r7
            obtain ⟨g7, cap7, rfl, hc7, hm7, hL7, -⟩ := row_some r7 (by omega)
            have r8 : w7.ownsRow w.heap.size 3 1 (.slice (some ⟨g7, 0, none⟩) (c + 1) cap7) (c + 1) ((o.take c ++ x :: o.drop c).map (Value.int .i64)) := by
              have := Go.Joins.ownsRow_le r7 (base' := w.heap.size) hbl3.size
              simpa using this
            have C7 : Below w.heap.size w w7 := hbl3.trans (B7.mono hbl3.size)
            have HOL2 : Hid ((o.take c ++ x :: o.drop c).length = c + 1) := Lib.hid (by rw [List.length_append, List.length_cons, List.length_take, List.length_drop, HOL.out]; omega)
            clear r7 h71
            go_wp2
            go_roundw
            case rel => exact ⟨k + 1, _, g7, cap7, _, by omega, by go_num, rfl, hc7, by unfold maxLen at hm7; omega, HS2, HOL2, r8, C7⟩
            case measure => simp [intOf]; omega
        have hcm2 : ¬ oc = m := fun q => hcm q.symm
        have KA : Below W3.heap.size W3 (W3.alloc (.cells #[] 3)).drew := ((Below.refl _ _).alloc (Nat.le_refl _) _).drew
        have KA1 : Below W3.heap.size W3 ((W3.alloc (.cells #[] 3)).alloc (.cells #[.int .i64 x] 3)).drew := (((Below.refl _ _).alloc (Nat.le_refl _) _).alloc (by first | omega | (simp; done) | (simp; omega)) _).drew
        have KB : Below W3.heap.size W3 (W3.alloc (.cells #[.int .i64 x] 3)).drew := ((Below.refl _ _).alloc (Nat.le_refl _) _).drew
        have KB0 : Below W3.heap.size W3 ((W3.alloc (.cells #[.int .i64 x] 3)).alloc (.cells #[] 3)).drew := (((Below.refl _ _).alloc (Nat.le_refl _) _).alloc (by first | omega | (simp; done) | (simp; omega)) _).drew
        have rA : (W3.alloc (.cells #[] 3)).drew.ownsRow W3.heap.size 3 1 (.slice (some ⟨W3.heap.size, 0, none⟩) 0 0) 0 [] := rowK_empty W3 _ _ (Nat.le_refl _)
        have rA1 : ((W3.alloc (.cells #[] 3)).alloc (.cells #[.int .i64 x] 3)).drew.ownsRow W3.heap.size 3 1 (.slice (some ⟨W3.heap.size, 0, none⟩) 0 0) 0 [] := (rowK_empty W3 _ _ (Nat.le_refl _)).alloc _
        have rB0 : ((W3.alloc (.cells #[.int .i64 x] 3)).alloc (.cells #[] 3)).drew.ownsRow W3.heap.size 3 1 (.slice (some ⟨W3.heap.size + 1, 0, none⟩) 0 0) 0 [] := by
          have h9 : ((W3.alloc (.cells #[.int .i64 x] 3)).alloc (.cells #[] 3)).ownsRow W3.heap.size 3 1 (.slice (some ⟨W3.heap.size + 1, 0, none⟩) 0 0) 0 [] := by
            have := rowK_empty (W3.alloc (.cells #[.int .i64 x] 3)) (base := W3.heap.size) 3 1 (by first | omega | (simp; done) | (simp; omega))
            simpa using this
          exact h9
        have bA1 : Bx ((W3.alloc (.cells #[] 3)).alloc (.cells #[.int .i64 x] 3)).drew (W3.heap.size + 1) [.int .i64 x] := Bx.new1 W3 (.cells #[] 3) [.int .i64 x] 3
        have bB0 : Bx ((W3.alloc (.cells #[.int .i64 x] 3)).alloc (.cells #[] 3)).drew W3.heap.size [.int .i64 x] := (Bx.new W3 [.int .i64 x] 3).alloc _
        have one0 : ∀ u ∈ o.map (Value.int .i64), u.oneCell' = true := oneInts o
        have Q1 : Hid (SrcK W3 1 (.slice (some ⟨g, 0, none⟩) m oc) m ((o.take m).map (Value.int .i64))) := Lib.hid (by
          have := row_part hrow3 one0 0 m oc (Nat.zero_le _) (by omega)
          simpa using this)
        have Q2 : Hid (SrcK W3 1 (.slice (some ⟨g, m, none⟩) (c - m) (oc - m)) (c - m) ((o.drop m).map (Value.int .i64))) := Lib.hid (by
          have := row_part hrow3 one0 m c (oc - m) (by omega) (Nat.le_refl _)
          rw [Nat.mul_one, Nat.mul_one, List.take_of_length_le (by rw [List.length_drop, List.length_map, HOL.out]; exact Nat.le_refl _)] at this
          simpa using this)
        have ONE : Hid (∀ u ∈ [Value.int .i64 x], u.oneCell' = true) := Lib.hid (by intro u hu; simp only [List.mem_singleton] at hu; subst hu; rfl)
        have HS0 : Hid (Below W3.heap.size W3 W3.drew) := Lib.hid (Below.refl _ _).drew
        clear one0
        go_wp2
        go_region_held3 (fun w' => Below W3.heap.size W3 w')
          (first
            | exact HS0.out
            | (with_reducible assumption))
          (first
            | (refine step_append_srcK (((W3.alloc (.cells #[] 3)).alloc (.cells #[.int .i64 x] 3)).drew) (by first | rfl | kernel_rfl) _ _ _ (by rfl) W3.heap.size 3 ti (.int .i64 0) 1 8 Try.underlying29 hi hz0 hz1 hz2 rfl (by decide) _ (0) ([]) (by rfl) (rA1) _ (m) _ (by rfl) (Q1.out.below KA1) (by unfold maxLen; omega) (by omega) (by first | omega | (simp; done) | (simp; omega)) ?_; intro v5 w5 hr5 hg5 hat5; have B5 : Below W3.heap.size W3 w5 := Below.grown KA1 hg5 (by first | omega | (simp; done) | (simp; omega)) (by intro q hq; cases hq; simp); have r5 : w5.ownsRow W3.heap.size 3 1 v5 m ((o.take m).map (Value.int .i64)) := (by simpa using hr5); have z5 := B5.size; have b5 := bA1.grown (row := some W3.heap.size) hg5 (by simp); clear hr5 hg5 hat5)
            | (refine step_append_srcK (((W3.alloc (.cells #[.int .i64 x] 3)).alloc (.cells #[] 3)).drew) (by first | rfl | kernel_rfl) _ _ _ (by rfl) W3.heap.size 3 ti (.int .i64 0) 1 8 Try.underlying29 hi hz0 hz1 hz2 rfl (by decide) _ (0) ([]) (by rfl) (rB0) _ (m) _ (by rfl) (Q1.out.below KB0) (by unfold maxLen; omega) (by omega) (by first | omega | (simp; done) | (simp; omega)) ?_; intro v5 w5 hr5 hg5 hat5; have B5 : Below W3.heap.size W3 w5 := Below.grown KB0 hg5 (by first | omega | (simp; done) | (simp; omega)) (by intro q hq; cases hq; simp); have r5 : w5.ownsRow W3.heap.size 3 1 v5 m ((o.take m).map (Value.int .i64)) := (by simpa using hr5); have z5 := B5.size; have b5 := bB0.grown (row := some (W3.heap.size + 1)) hg5 (by simp); clear hr5 hg5 hat5)
            | (refine step_append_srcK ((W3.alloc (.cells #[] 3)).drew) (by first | rfl | kernel_rfl) _ _ _ (by rfl) W3.heap.size 3 ti (.int .i64 0) 1 8 Try.underlying29 hi hz0 hz1 hz2 rfl (by decide) _ (0) ([]) (by rfl) (rA) _ (m) _ (by rfl) (Q1.out.below KA) (by unfold maxLen; omega) (by omega) (by first | omega | (simp; done) | (simp; omega)) ?_; intro v5 w5 hr5 hg5 hat5; have B5 : Below W3.heap.size W3 w5 := Below.grown KA hg5 (by first | omega | (simp; done) | (simp; omega)) (by intro q hq; cases hq; simp); have r5 : w5.ownsRow W3.heap.size 3 1 v5 m ((o.take m).map (Value.int .i64)) := (by simpa using hr5); have z5 := B5.size; have K5 : Below W3.heap.size W3 (w5.alloc (.cells #[.int .i64 x] 3)) := B5.alloc B5.size _; have b5V : Bx (w5.alloc (.cells #[.int .i64 x] 3)) w5.heap.size [.int .i64 x] := Bx.new w5 [.int .i64 x] 3; clear hr5 hg5 hat5)
            | (refine step_append_srcK (w5) (by first | rfl | kernel_rfl) _ _ _ (by rfl) W3.heap.size 3 ti (.int .i64 0) 1 8 Try.underlying29 hi hz0 hz1 hz2 rfl (by decide) _ (m) ((o.take m).map (Value.int .i64)) (by rfl) (r5) _ (1) _ (by rfl) (srcK_box b5 ONE.out) (by unfold maxLen; omega) (by omega) (z5) ?_; intro v6 w6 hr6 hg6 hat6; have B6 : Below W3.heap.size W3 w6 := Below.grown B5 hg6 (by first | omega | (simp; done) | (simp; omega)) (fun q hq => (r5.lt q hq).1); have r6 : w6.ownsRow W3.heap.size 3 1 v6 (m + 1) ((o.take m).map (Value.int .i64) ++ [.int .i64 x]) := (by simpa using hr6); have z6 := B6.size; clear hr6 hg6 hat6)
            | (refine step_append_srcK (w5.alloc (.cells #[.int .i64 x] 3)) (by first | rfl | kernel_rfl) _ _ _ (by rfl) W3.heap.size 3 ti (.int .i64 0) 1 8 Try.underlying29 hi hz0 hz1 hz2 rfl (by decide) _ (m) ((o.take m).map (Value.int .i64)) (by rfl) (r5.alloc _) _ (1) _ (by rfl) (srcK_box b5V ONE.out) (by unfold maxLen; omega) (by omega) (by first | omega | (simp; done) | (simp; omega)) ?_; intro v6 w6 hr6 hg6 hat6; have B6 : Below W3.heap.size W3 w6 := Below.grown K5 hg6 (by first | omega | (simp; done) | (simp; omega)) (fun q hq => (r5.lt q hq).1); have r6 : w6.ownsRow W3.heap.size 3 1 v6 (m + 1) ((o.take m).map (Value.int .i64) ++ [.int .i64 x]) := (by simpa using hr6); have z6 := B6.size; clear hr6 hg6 hat6)
            | (refine step_append_srcK (w6) (by first | rfl | kernel_rfl) _ _ _ (by rfl) W3.heap.size 3 ti (.int .i64 0) 1 8 Try.underlying29 hi hz0 hz1 hz2 rfl (by decide) _ (m + 1) ((o.take m).map (Value.int .i64) ++ [.int .i64 x]) (by rfl) (r6) _ (c - m) _ (by rfl) (Q2.out.below B6) (by unfold maxLen; omega) (by omega) (z6) ?_; intro v7 w7 hr7 hg7 hat7; have B7 : Below W3.heap.size W3 w7 := Below.grown B6 hg7 (by first | omega | (simp; done) | (simp; omega)) (fun q hq => (r6.lt q hq).1); have r7 : w7.ownsRow W3.heap.size 3 1 v7 (m + 1 + (c - m)) ((o.take m).map (Value.int .i64) ++ .int .i64 x :: (o.drop m).map (Value.int .i64)) := (by simpa using hr7); have z7 := B7.size; clear hr7 hg7 hat7))
        all_goals
          have h71 : m + 1 + (c - m) = c + 1 := by omega
          rw [h71] at r7
          obtain ⟨g7, cap7, rfl, hc7, hm7, hL7, -⟩ := row_some r7 (by omega)
          have r8 : w7.ownsRow w.heap.size 3 1 (.slice (some ⟨g7, 0, none⟩) (c + 1) cap7) (c + 1) ((o.take m ++ x :: o.drop m).map (Value.int .i64)) := by
            have := Go.Joins.ownsRow_le r7 (base' := w.heap.size) hbl3.size
            simpa using this
          have C7 : Below w.heap.size w w7 := hbl3.trans (B7.mono hbl3.size)
          have HOL2 : Hid ((o.take m ++ x :: o.drop m).length = c + 1) := Lib.hid (by rw [List.length_append, List.length_cons, List.length_take, List.length_drop, HOL.out]; omega)
          clear r7 h71
          go_wp2
          go_roundw
          case rel => exact ⟨k + 1, _, g7, cap7, _, by omega, by go_num, rfl, hc7, by unfold maxLen at hm7; omega, HS2, HOL2, r8, C7⟩
          case measure => simp [intOf]; omega
end Go.Proofs.Ytdiedfpfhbdamaa
