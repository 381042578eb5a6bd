/- The program's ParseTrace: contract. -/
import Derived.Test.YtedngmnjpkhbiaaDoorPtS
import Derived.Deep.CutBlock
import Derived.Deep.CutRange
import Derived.Deep.DeepCutAuto
import Derived.Test.YtedngmnjpkhbiaaDoorPieces
import Derived.Test.YtedngmnjpkhbiaaDoorShelf
namespace Go.Proofs.YtedngmnjpkhbiaaDoor
open Go.ChangeShapes Go.WideShapes Go.ChangeAt Go.RowKit Go.ChangeMaps
set_option linter.unusedSimpArgs false
set_option linter.unusedVariables false

def cutA (s : ByteArray) (c : UInt8) : ByteArray := ⟨(Lib.cut s.data.toList [c]).1.toArray⟩
def cutB (s : ByteArray) (c : UInt8) : ByteArray := ⟨(Lib.cut s.data.toList [c]).2.1.toArray⟩
def cutF (s : ByteArray) (c : UInt8) : Bool := (Lib.cut s.data.toList [c]).2.2
theorem cut_len (s c : List UInt8) : (Lib.cut s c).1.length ≤ s.length ∧ (Lib.cut s c).2.1.length ≤ s.length := by
  unfold Lib.cut
  split
  · simp only [List.length_take, List.length_drop]; omega
  · simp
theorem cutA_size (s : ByteArray) (c : UInt8) : (cutA s c).size ≤ s.size := by
  have := (cut_len s.data.toList [c]).1
  rw [len_list] at this
  rw [← len_list (cutA s c)]
  simpa [cutA] using this
theorem cutB_size (s : ByteArray) (c : UInt8) : (cutB s c).size ≤ s.size := by
  have := (cut_len s.data.toList [c]).2
  rw [len_list] at this
  rw [← len_list (cutB s c)]
  simpa [cutB] using this
/-- The cell that the library's search reads. -/
def MaxAt (w : World) : Prop := ∃ m, w.cell? ⟨0, 0, none⟩ = some (.int .i64 m)
theorem MaxAt.below {w w' : World} (h : MaxAt w) (hb : Below w.heap.size w w') : MaxAt w' := by
  obtain ⟨m, h⟩ := h
  exact ⟨m, cellOf hb (cell_of_lt h) h⟩
theorem implCutStr (s : ByteArray) (c : UInt8) (w : World) (hs : s.size ≤ 1048576) (hm : MaxAt w) :
    Calls Tryd.prog 21 #[.string s, .string ⟨#[c]⟩] w fun e w' => e = .returned (.tuple #[.string (cutA s c), .string (cutB s c), .bool (cutF s c)]) ∧ ∃ n, w' = w.drewN n := by
  obtain ⟨m, hm⟩ := hm
  exact Tryd.strings_Cut s ⟨#[c]⟩ m w (by omega) hm

def fieldsP (s : ByteArray) : List ByteArray := resSp (cutB s 58) ⟨#[32]⟩
def okFP (s : ByteArray) : Bool := okSp (cutB s 58) ⟨#[32]⟩
def staP (s : ByteArray) : ByteArray := cutA (cutA s 58) 64
def strP (s : ByteArray) : ByteArray := cutB (cutA s 58) 64
theorem key {s : ByteArray} (h : okPT s = true) : okFP s = true ∧ nums [staP s, strP s] = some [(spT s).st, (spT s).start] ∧ nums (fieldsP s).tail = some (spT s).xs ∧ goodT (spT s) = true ∧ textT (spT s) = s := by
  obtain ⟨_, _, _, hg, htx⟩ := okPT_yes h
  generalize spT s = t at *
  subst htx
  have hc := cut_text t
  have a1 : cutA (textT t) 58 = hd2 t := by unfold cutA; rw [hc, bytes_eta]
  have a2 : cutB (textT t) 58 = tlT t t.xs.length := by unfold cutB; rw [hc, bytes_eta]
  have hd := cut_hd t
  have a3 : staP (textT t) = numB t.st := by unfold staP; rw [a1]; unfold cutA; rw [hd, bytes_eta]
  have a4 : strP (textT t) = numB t.start := by unfold strP; rw [a1]; unfold cutB; rw [hd, bytes_eta]
  have hz := tl_size t hg
  obtain ⟨s1, s2⟩ := resSp_yes (s := tlT t t.xs.length) (sep := ⟨#[32]⟩) (c := 32) (by omega) rfl rfl
  refine ⟨by unfold okFP; rw [a2]; exact s2, by rw [a3, a4]; exact nums_hd t hg, ?_, hg, rfl⟩
  unfold fieldsP
  rw [a2, s1, split_tail]
  exact nums_xs t hg
theorem conv {s : ByteArray} {t : Tr} (hg : goodT t = true) (h : textT t = s) : okPT s = true ∧ spT s = t := by
  subst h
  exact pt_complete hg
theorem fields_pos {s : ByteArray} (h : okFP s = true) : 0 < (fieldsP s).length ∧ (fieldsP s).length ≤ 4001 ∧ ∀ x ∈ fieldsP s, x.size ≤ 4000 := by
  have h' : okSp (cutB s 58) ⟨#[32]⟩ = true := h
  unfold okSp at h'
  rw [Bool.and_eq_true, decide_eq_true_eq] at h'
  obtain ⟨s1, s2⟩ := resSp_yes (s := cutB s 58) (sep := ⟨#[32]⟩) (c := 32) h'.1 rfl rfl
  unfold fieldsP
  rw [s1]
  have := split_len (cutB s 58) 32
  exact ⟨this.1, by omega, fun x hx => Nat.le_trans (split_size hx) h'.1⟩

set_option maxRecDepth 100000 in
set_option maxHeartbeats 6000000 in
theorem implPT (s : ByteArray) (w : World) (hs : s.size ≤ 1048576) (hp : Pow10 w) (hm : MaxAt w) (e0 : ErrAt w 2) (e1 : ErrAt w 3) :
    Calls Tryd.prog 7 #[.string s] w fun e w' => ∃ v, e = .returned (.tuple #[v, .bool (okPT s)]) ∧ TrO w' w.heap.size w'.heap.size v (resPT s) ∧ Below w.heap.size w w' := by
  have N0 := (Below.refl w.heap.size w).alloc (Nat.le_refl _) (.cells #[.int .i64 0, .int .i64 0, .slice none 0 0] 26)
  have d0 := Bx.new w [.int .i64 0, .int .i64 0, .slice none 0 0] 26
  have KEY := Lib.hid (key (s := s))
  have CONV := Lib.hid (fun t => conv (s := s) (t := t))
  have FP := Lib.hid (fields_pos (s := s))
  have HRES : Hid (okPT s = true → resPT s = spT s) := Lib.hid resPT_yes
  have HREN : Hid (okPT s = false → resPT s = nilT) := Lib.hid resPT_no
  have HPW := Lib.hid hp
  have HMX := Lib.hid hm
  have E0 := Lib.hid e0
  have E1 := Lib.hid e1
  have zA := cutA_size s 58
  have zB := cutB_size s 58
  have zC := cutA_size (cutA s 58) 64
  have zD := cutB_size (cutA s 58) 64
  have C1 := Lib.hid (fun w h => implCutStr s 58 w hs h)
  have C2 := Lib.hid (fun w h => implCutStr (cutA s 58) 64 w (by omega) h)
  have C3 : Hid (∀ w, Calls Tryd.prog 22 #[.string (cutB s 58), .string ⟨#[32]⟩] w fun e w' => ∃ v, e = .returned (.tuple #[v, .bool (okFP s)]) ∧ w'.ownsRow w.heap.size 9 1 v (fieldsP s).length ((fieldsP s).map Value.string) ∧ Below w.heap.size w w') := Lib.hid (fun w => implSplit (cutB s 58) ⟨#[32]⟩ w)
  rw [show cutA (cutA s 58) 64 = staP s from rfl] at C2 zC
  rw [show cutB (cutA s 58) 64 = strP s from rfl] at C2 zD
  clear hp hm e0 e1
  generalize staP s = sta at *
  generalize strP s = str at *
  generalize fieldsP s = fs at *
  generalize okFP s = okf at *
  generalize okPT s = ok at *
  generalize resPT s = res at *
  generalize cutA s 58 = ca at *
  generalize cutB s 58 = cb at *
  go_enter Tryd.func7, Tryd.ntmps7
  go_wp2_with fail
  refine (C1.out _ (HMX.out.below N0)).mono ?_
  rintro e w1' ⟨rfl, m1, rfl⟩
  have B1 := drewN_b N0 m1
  have d1 := d0.drewN m1
  generalize (w.alloc (.cells #[.int .i64 0, .int .i64 0, .slice none 0 0] 26)).drewN m1 = w1 at *
  go_wp2_with fail
  refine (C2.out _ (HMX.out.below B1)).mono ?_
  rintro e w2' ⟨rfl, m2, rfl⟩
  have B2 := drewN_b B1 m2
  have d2 := d1.drewN m2
  clear d1 B1
  generalize w1.drewN m2 = w2 at *
  go_wp2_with fail
  refine (C3.out _).mono ?_
  rintro e w3 ⟨v3, rfl, r3, hb3⟩
  have B3 := B2.trans (hb3.mono B2.size)
  have d3 := d2.below hb3
  have z3 := hb3.size
  have x0 := d3.2 0 _ rfl
  have x1 := d3.2 1 _ rfl
  have x2 := d3.2 2 _ rfl
  have x3 := d3.1.2
  clear d2 B2
  cases okf with
  | false =>
    have HO : Hid (ok = false) := Lib.hid (by cases h : ok; rfl; exact absurd (KEY.out h).1 (by simp))
    go_wp2
    refine bodyPost_ret (v := .tuple #[.agg #[.int .i64 0, .int .i64 0, .slice none 0 0], .bool false]) (by simp [results, Tryd.results7, go_sem, x0, x1, x2]) rfl ?_
    rw [HREN.out HO.out, HO.out]
    refine ⟨_, rfl, ⟨_, rfl, Own.nilP _ _ _⟩, ?_⟩
    exact ((B3.setCell (p := ⟨w.heap.size, 0, none⟩) (Nat.le_refl _) _).setCell (p := ⟨w.heap.size, 1, none⟩) (Nat.le_refl _) _).setCell (p := ⟨w.heap.size, 2, none⟩) (Nat.le_refl _) _
  | true =>
    obtain ⟨f1, f2, f3⟩ := FP.out rfl
    obtain ⟨ao3, cap3, rfl⟩ := row_form r3
    have l3 := (Own.of_row r3).lst
    clear x0 x1 x2 x3
    go_wp2_with fail
    have bx := Bx.new w3 [.string sta, .string str] 9
    have L4 : Lst Value.string (w3.alloc (.cells #[.string sta, .string str] 9)) (w3.alloc (.cells #[.string sta, .string str] 9)).heap.size (.slice (some ⟨w3.heap.size, 0, none⟩) 2 2) [sta, str] := by
      refine ⟨_, _, rfl, by simp, by simp [maxLen], by simp, fun i x hx => ⟨_, _, rfl, by simp, ?_⟩⟩
      rw [Nat.zero_add]
      refine bx.2 i (.string x) ?_
      match i, hx with
      | 0, hx => cases hx; rfl
      | 1, hx => cases hx; rfl
    have B4 := B3.alloc B3.size (.cells #[.string sta, .string str] 9)
    have d4 := d3.alloc (.cells #[.string sta, .string str] 9)
    have Z4 : Below w3.heap.size w3 (w3.alloc (.cells #[.string sta, .string str] 9)) := (Below.refl _ _).alloc (Nat.le_refl _) _
    generalize w3.alloc (.cells #[.string sta, .string str] 9) = w4 at *
    clear d3 bx
    refine (implNums [sta, str] _ w4 w4.heap.size L4 (Nat.le_refl _) (by simp) (by intro x hx; simp only [List.mem_cons, List.not_mem_nil, or_false] at hx; rcases hx with rfl | rfl <;> omega) (E0.out.below B4) (E1.out.below B4)).mono ?_
    rintro e w5 ⟨v5, rfl, o5, hb5⟩
    have B5 := B4.trans (hb5.mono B4.size)
    have d5 := d4.below hb5
    have Z5 := Z4.trans (hb5.mono Z4.size)
    clear L4 d4
    cases hn1 : nums [sta, str] with
    | none =>
      have HO : Hid (ok = false) := Lib.hid (by cases h : ok; rfl; exact absurd ((KEY.out h).2.1.symm.trans hn1) (by simp))
      have x0 := d5.2 0 _ rfl
      have x1 := d5.2 1 _ rfl
      have x2 := d5.2 2 _ rfl
      have x3 := d5.1.2
      obtain ⟨_, _, rfl⟩ := o5.form
      clear hn1
      go_wp2
      refine bodyPost_ret (v := .tuple #[.agg #[.int .i64 0, .int .i64 0, .slice none 0 0], .bool false]) (by simp [results, Tryd.results7, go_sem, x0, x1, x2]) rfl ?_
      rw [HREN.out HO.out, HO.out]
      refine ⟨_, rfl, ⟨_, rfl, Own.nilP _ _ _⟩, ?_⟩
      exact ((B5.setCell (p := ⟨w.heap.size, 0, none⟩) (Nat.le_refl _) _).setCell (p := ⟨w.heap.size, 1, none⟩) (Nat.le_refl _) _).setCell (p := ⟨w.heap.size, 2, none⟩) (Nat.le_refl _) _
    | some xs2 =>
      have hxl := nums_len hn1
      obtain ⟨a, b, rfl⟩ : ∃ a b, xs2 = [a, b] := by
        match xs2, hxl with
        | [a, b], _ => exact ⟨a, b, rfl⟩
      rw [hn1] at o5
      have o5' : Own (Value.int .i64) w5 w4.heap.size w5.heap.size v5 [a, b] := o5
      obtain ⟨ao5, cap5, rfl⟩ := o5'.form
      have HN1 := Lib.hid hn1
      clear hn1 hxl o5
      have f1i : (1 : Int) ≤ (fs.length : Int) := by omega
      obtain ⟨_, _, hv3, hcap3, hmax3, hnil3, hc3⟩ := l3
      simp only [Value.slice.injEq] at hv3
      obtain ⟨rfl, _, rfl⟩ := hv3
      obtain ⟨y, hy⟩ := get_of_lt f1
      obtain ⟨b3, off3, rfl, hb3', _⟩ := hc3 0 y hy
      have f1n : 1 ≤ fs.length := f1
      unfold maxLen at hmax3
      have hcapi : (fs.length : Int) ≤ (cap3 : Int) := by omega
      have hcapj : (cap3 : Int) ≤ 9223372036854775807 := by omega
      go_upto_region 9 with fail
      go_cut [11, 13] from 47 to 53 (fun k q wx => ∃ v6, k = .bool (nums fs.tail).isSome ∧ q = v6 ∧ Own (Value.int .i64) wx w5.heap.size wx.heap.size v6 ((nums fs.tail).getD []) ∧ Below w5.heap.size w5 wx)
      case first =>
        obtain hcl | hcl := Nat.lt_or_ge 1 cap3
        · have hcli : (1 : Int) < (cap3 : Int) := by omega
          have hclj : ¬ cap3 - 1 = 0 := by omega
          have hclk : ¬ cap3 = 1 := by omega
          have LT : Lst Value.string w5 w5.heap.size (.slice (some ⟨b3, off3 + 1, none⟩) (fs.length - 1) (cap3 - 1)) fs.tail := by
            refine ⟨some ⟨b3, off3 + 1, none⟩, cap3 - 1, by rw [List.length_tail], by rw [List.length_tail]; omega, by unfold maxLen; omega, (by simp), fun i x hx => ?_⟩
            rw [List.getElem?_tail] at hx
            obtain ⟨bb, oo, hbb, hbl, hcx⟩ := hc3 (i + 1) x hx
            simp only [Option.some.injEq, Addr.mk.injEq, and_true] at hbb
            obtain ⟨rfl, rfl⟩ := hbb
            have hcx5 := cellOf Z5 hbl hcx
            exact ⟨_, _, rfl, by have := Z5.size; omega, by rw [show off3 + 1 + i = off3 + (i + 1) by omega]; exact hcx5⟩
          go_wp2_with fail
          refine (implNums fs.tail _ w5 w5.heap.size LT (Nat.le_refl _) (by rw [List.length_tail]; omega) (fun x hx => Nat.le_trans (f3 x (List.mem_of_mem_tail hx)) (by omega)) (E0.out.below B5) (E1.out.below B5)).mono ?_
          rintro e w6 ⟨v6, rfl, o6, hb6⟩
          obtain ⟨ao9, cap9, rfl⟩ := o6.form
          go_wp2
          go_meet
          exact ⟨_, rfl, rfl, o6, hb6⟩
        · have hc0 : cap3 = 1 := by omega
          subst hc0
          have hfe : fs.tail = [] := List.length_eq_zero_iff.1 (by rw [List.length_tail]; omega)
          have LT : Lst Value.string w5 w5.heap.size (.slice (some ⟨b3, off3, none⟩) 0 0) fs.tail := by
            refine ⟨some ⟨b3, off3, none⟩, 0, by rw [hfe]; rfl, by rw [hfe]; exact Nat.le_refl _, by simp [maxLen], by simp, fun i x hx => ?_⟩
            rw [hfe] at hx
            cases hx
          clear hfe
          go_wp2_with fail
          refine (implNums fs.tail _ w5 w5.heap.size LT (Nat.le_refl _) (by rw [List.length_tail]; omega) (fun x hx => Nat.le_trans (f3 x (List.mem_of_mem_tail hx)) (by omega)) (E0.out.below B5) (E1.out.below B5)).mono ?_
          rintro e w6 ⟨v6, rfl, o6, hb6⟩
          obtain ⟨ao9, cap9, rfl⟩ := o6.form
          go_wp2
          go_meet
          exact ⟨_, rfl, rfl, o6, hb6⟩
      case rest =>
        obtain ⟨v6, rfl, hq6, o6, hb6⟩ := hcut
        obtain rfl := hq6.symm
        obtain ⟨w6, hw6⟩ : ∃ x, x = wc := ⟨wc, rfl⟩
        subst hw6
        have B6 := B5.trans (hb6.mono B5.size)
        have d6 := d5.below hb6
        have z6 := hb6.size
        cases hn2 : nums fs.tail with
        | none =>
          have HO : Hid (ok = false) := Lib.hid (by cases h : ok; rfl; exact absurd ((KEY.out h).2.2.1.symm.trans hn2) (by simp))
          have x0 := d6.2 0 _ rfl
          have x1 := d6.2 1 _ rfl
          have x2 := d6.2 2 _ rfl
          have x3 := d6.1.2
          obtain ⟨_, _, rfl⟩ := o6.form
          clear hn2
          go_wp2
          refine bodyPost_ret (v := .tuple #[.agg #[.int .i64 0, .int .i64 0, .slice none 0 0], .bool false]) (by simp [results, Tryd.results7, go_sem, x0, x1, x2]) rfl ?_
          rw [HREN.out HO.out, HO.out]
          refine ⟨_, rfl, ⟨_, rfl, Own.nilP _ _ _⟩, ?_⟩
          exact ((B6.setCell (p := ⟨w.heap.size, 0, none⟩) (Nat.le_refl _) _).setCell (p := ⟨w.heap.size, 1, none⟩) (Nat.le_refl _) _).setCell (p := ⟨w.heap.size, 2, none⟩) (Nat.le_refl _) _
        | some ys =>
          have HYL := Lib.hid (nums_len hn2)
          have hyl : ys.length ≤ 4001 := by rw [nums_len hn2, List.length_tail]; omega
          rw [hn2] at o6
          have o6' : Own (Value.int .i64) w6 w5.heap.size w6.heap.size v6 ys := o6
          obtain ⟨ao6, cap6, rfl⟩ := o6'.form
          have HN2 := Lib.hid hn2
          obtain ⟨_, _, hv5, hcap5, hmax5, -, hc5⟩ := (o5'.below hb6).lst
          simp only [Value.slice.injEq] at hv5
          obtain ⟨rfl, _, rfl⟩ := hv5
          obtain ⟨b5, off5, rfl, hb5', hca⟩ := hc5 0 a rfl
          obtain ⟨b5', off5', hbb5, _, hcb⟩ := hc5 1 b rfl
          simp only [Option.some.injEq, Addr.mk.injEq, and_true] at hbb5
          obtain ⟨rfl, rfl⟩ := hbb5
          rw [Nat.add_zero] at hca
          clear hn2 o6 hc5
          go_wp2
          have hca' : ({ w6 with drawn := w6.drawn + 1 } : World).cell? ⟨b5, off5, none⟩ = some (.int .i64 a) := hca
          have hcb' : ({ w6 with drawn := w6.drawn + 1 } : World).cell? ⟨b5, off5 + 1, none⟩ = some (.int .i64 b) := hcb
          have hb6' : b5 < w6.heap.size := by omega
          have hca2 : w6.drew.cell? ⟨b5, off5, none⟩ = some (.int .i64 a) := hca
          have hcb2 : w6.drew.cell? ⟨b5, off5 + 1, none⟩ = some (.int .i64 b) := hcb
          go_region
          have N7 : Below w6.heap.size w6 ((w6.alloc (.cells #[.int .i64 a, .int .i64 b, .slice ao6 ys.length cap6] 26)).drew) := ((Below.refl _ _).alloc (Nat.le_refl _) _).drew
          have c7 : Bx ((w6.alloc (.cells #[.int .i64 a, .int .i64 b, .slice ao6 ys.length cap6] 26)).drew) w6.heap.size [.int .i64 a, .int .i64 b, .slice ao6 ys.length cap6] := Bx.new w6 [.int .i64 a, .int .i64 b, .slice ao6 ys.length cap6] 26
          generalize (w6.alloc (.cells #[.int .i64 a, .int .i64 b, .slice ao6 ys.length cap6] 26)).drew = w7 at *
          have B7 := B6.trans (N7.mono B6.size)
          have HT7 : Hid (TrL w7 w6.heap.size (.agg #[.int .i64 a, .int .i64 b, .slice ao6 ys.length cap6]) ⟨a, b, ys⟩) := Lib.hid ⟨_, rfl, o6'.lst.below N7⟩
          have EQ : Hid (ok = true → spT s = ⟨a, b, ys⟩) := Lib.hid (fun h => by
            obtain ⟨_, k1, k2, _, _⟩ := KEY.out h
            rw [HN1.out] at k1
            rw [HN2.out] at k2
            simp only [Option.some.injEq, List.cons.injEq, and_true] at k1
            rw [k1.1, k1.2, Option.some.inj k2])
          have p0 := c7.2 0 _ rfl
          have p1 := c7.2 1 _ rfl
          have p2 := c7.2 2 _ rfl
          have z7 := N7.size
          clear hca hcb hca' hcb' hca2 hcb2
          go_wp2_with fail
          refine (implTx ⟨a, b, ys⟩ _ w7 w6.heap.size (pow10_below HPW.out B7) HT7.out z7 (by show ys.length ≤ 1048576; omega)).mono ?_
          rintro e w8 ⟨rfl, hb8⟩
          have B8 := B7.trans (hb8.mono B7.size)
          have N8 := N7.trans (hb8.mono z7)
          have d8 := d6.below N8
          have c8 := c7.below hb8
          have own8 := o6'.below N8
          have z8 := N8.size
          have x0 := d8.2 0 _ rfl
          have x1 := d8.2 1 _ rfl
          have x2 := d8.2 2 _ rfl
          have x3 := d8.1.2
          have y0 := c8.2 0 _ rfl
          have y1 := c8.2 1 _ rfl
          have y2 := c8.2 2 _ rfl
          clear p0 p1 p2
          cases hgt : goodT ⟨a, b, ys⟩ with
          | false =>
            have HO : Hid (ok = false) := Lib.hid (by cases h : ok; rfl; exact absurd ((EQ.out h) ▸ (KEY.out h).2.2.2.1) (by rw [hgt]; simp))
            have e2 : resTx ⟨a, b, ys⟩ = .empty := by unfold resTx; rw [hgt]; rfl
            rw [e2]
            clear e2 hgt
            go_wp2
            refine bodyPost_ret (v := .tuple #[.agg #[.int .i64 0, .int .i64 0, .slice none 0 0], .bool false]) (by simp [results, Tryd.results7, go_sem, x0, x1, x2]) rfl ?_
            rw [HREN.out HO.out, HO.out]
            refine ⟨_, rfl, ⟨_, rfl, Own.nilP _ _ _⟩, ?_⟩
            exact ((B8.setCell (p := ⟨w.heap.size, 0, none⟩) (Nat.le_refl _) _).setCell (p := ⟨w.heap.size, 1, none⟩) (Nat.le_refl _) _).setCell (p := ⟨w.heap.size, 2, none⟩) (Nat.le_refl _) _
          | true =>
            have e2 : resTx ⟨a, b, ys⟩ = textT ⟨a, b, ys⟩ := by unfold resTx; rw [hgt]; rfl
            rw [e2]
            clear e2
            by_cases htx : textT ⟨a, b, ys⟩ = s
            · have HO : Hid (ok = true) := Lib.hid (CONV.out _ hgt htx).1
              have HR : Hid (res = ⟨a, b, ys⟩) := Lib.hid ((HRES.out HO.out).trans (CONV.out _ hgt htx).2)
              rw [htx]
              clear hgt
              have zd := d6.1.1
              have zd5 := d5.1.1
              go_wp2
              refine bodyPost_ret (v := .tuple #[.agg #[.int .i64 a, .int .i64 b, .slice ao6 ys.length cap6], .bool true]) (by simp [results, Tryd.results7, go_sem, x0, x1, x2]) rfl ?_
              rw [HR.out, HO.out]
              refine ⟨_, rfl, ⟨_, rfl, ?_⟩, ?_⟩
              · exact (((own8.setLow (by simp; omega) _).setLow (by simp; omega) _).setLow (by simp; omega) _).mono (by omega) (by simp; omega)
              · exact ((B8.setCell (p := ⟨w.heap.size, 0, none⟩) (Nat.le_refl _) _).setCell (p := ⟨w.heap.size, 1, none⟩) (Nat.le_refl _) _).setCell (p := ⟨w.heap.size, 2, none⟩) (Nat.le_refl _) _
            · have HO : Hid (ok = false) := Lib.hid (by cases h : ok; rfl; exact absurd ((EQ.out h) ▸ (KEY.out h).2.2.2.2) htx)
              have hne := str_ne htx
              clear htx hgt
              go_wp2
              refine bodyPost_ret (v := .tuple #[.agg #[.int .i64 0, .int .i64 0, .slice none 0 0], .bool false]) (by simp [results, Tryd.results7, go_sem, x0, x1, x2]) rfl ?_
              rw [HREN.out HO.out, HO.out]
              refine ⟨_, rfl, ⟨_, rfl, Own.nilP _ _ _⟩, ?_⟩
              exact ((B8.setCell (p := ⟨w.heap.size, 0, none⟩) (Nat.le_refl _) _).setCell (p := ⟨w.heap.size, 1, none⟩) (Nat.le_refl _) _).setCell (p := ⟨w.heap.size, 2, none⟩) (Nat.le_refl _) _
end Go.Proofs.YtedngmnjpkhbiaaDoor
