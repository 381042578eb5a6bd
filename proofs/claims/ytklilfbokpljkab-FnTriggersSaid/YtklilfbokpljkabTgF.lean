/- Triggers: the specification's lists of times. -/
import Derived.Test.YtklilfbokpljkabTgD
namespace Go.Proofs.Ytklilfbokpljkab
open Go.ChangeShapes Go.WideShapes Go.ChangeAt Go.RowKit Go.ChangeMaps
set_option linter.unusedSimpArgs false
set_option linter.unusedVariables false
set_option linter.unusedSimpArgs false
set_option linter.unusedVariables false

/-- A list of pairs beside a row that grows. -/
def SideT (w : World) (row : Option Nat) (ao : Option Addr) (xs : List (Int × Int)) : Prop :=
  ∀ j q, xs[j]? = some q → ∃ b off, ao = some ⟨b, off, none⟩ ∧ b < w.heap.size ∧ row ≠ some b ∧ ∀ i c, (encA2 q)[i]? = some c → w.cell? ⟨b, off + j * 2 + i, none⟩ = some c
theorem SideT.below {w w' : World} {row : Option Nat} {ao : Option Addr} {xs : List (Int × Int)} (h : SideT w row ao xs) (hb : Below w.heap.size w w') : SideT w' row ao xs := fun j q hq => by
  obtain ⟨b, off, e, hlt, hne, hc⟩ := h j q hq
  exact ⟨b, off, e, Nat.lt_of_lt_of_le hlt hb.size, hne, fun i c hi => (hb.cell (p := ⟨b, off + j * 2 + i, none⟩) hlt).trans (hc i c hi)⟩
theorem SideT.alloc {w : World} {row : Option Nat} {ao : Option Addr} {xs : List (Int × Int)} (h : SideT w row ao xs) (o : Obj) : SideT (w.alloc o) row ao xs := h.below ((Below.refl _ w).alloc (Nat.le_refl _) o)
theorem SideT.grown {w w' : World} {row row' : Option Nat} {ao : Option Addr} {xs : List (Int × Int)} (h : SideT w row ao xs) (hg : w.grownBy w' row) (hr : row' = row ∨ row' = some w.heap.size) : SideT w' row' ao xs := fun j q hq => by
  obtain ⟨b, off, e, hlt, hne, hc⟩ := h j q hq
  refine ⟨b, off, e, Nat.lt_of_lt_of_le hlt hg.size, ?_, fun i c hi => (World.cell?_of_block (hg.block b hlt (fun q => hne q.symm))).trans (hc i c hi)⟩
  rcases hr with rfl | rfl
  · exact hne
  · intro q; cases q; omega
theorem SideT.of {w : World} {B L : Nat} {row : Option Nat} {ao : Option Addr} {n cap : Nat} {xs : List (Int × Int)} (h : IntA2SO w L B (.slice ao n cap) xs) (hr : ∀ g, row = some g → g < L) : SideT w row ao xs := fun j q hq => by
  obtain ⟨ao', cap', e, -, -, -, hc⟩ := h
  simp only [Value.slice.injEq] at e
  obtain ⟨rfl, -, rfl⟩ := e
  obtain ⟨b, off, e1, h1, h2, h3, h4, -⟩ := hc j q hq
  exact ⟨b, off, e1, h3, fun q => by have := hr b q; omega, h4⟩
set_option maxRecDepth 100000 in
set_option maxHeartbeats 2000000 in
theorem specTrg (xs : List Int) (v : Value) (s : GSetting) (v2 : Value) (w : World) (B : Nat) (h : Lst (Value.int .i64) w B v xs) (h2 : SettingVL w B v2 s) (hB : B ≤ w.heap.size) (hn : xs.length ≤ 1048576) (_ : sz1Setting s ≤ 1048576) (hw : wfSetting s) :
    Calls Try.prog 34 #[v, v2] w fun e w' => ∃ v', e = .returned (.tuple #[v', .bool (goodTg xs s)]) ∧ IntA2SO w' w.heap.size w'.heap.size v' (trgT xs s) ∧ Below w.heap.size w w' := by
  obtain rfl := h2.form
  clear h2
  have N1 := (Below.refl w.heap.size w).alloc (Nat.le_refl _) (.cells #[.int .i64 s.pShort, .int .i64 s.pLong, .int .i64 s.pOn, .int .i64 s.pOff] 28)
  have bx := Bx.new w [.int .i64 s.pShort, .int .i64 s.pLong, .int .i64 s.pOn, .int .i64 s.pOff] 28
  have C := Lib.hid (fun u hu => specAskT xs v s u _ B (h.below (N1.mono hB)) (Nat.le_trans hB N1.size) hw hu)
  cases hg : goodTg xs s with
  | false =>
    have HF : Hid (trgT xs s = []) := Lib.hid (by unfold trgT; rw [hg]; rfl)
    have CA := Lib.hid (C.out false hg)
    obtain ⟨ao, cap, rfl⟩ := h.form
    clear h C hg
    go_enter Try.func34, Try.ntmps34
    go_wp2_with fail
    refine CA.out.mono ?_
    rintro e w1 ⟨rfl, hb⟩
    have B1 := N1.trans (hb.mono N1.size)
    go_wp2
    go_ret2
    exact ⟨_, rfl, by rw [HF.out]; exact ownK_empty encA2_len (by omega) w1 _ B1.size, B1.alloc B1.size _⟩
  | true =>
    have HF : Hid (trgT xs s = timesT xs s) := Lib.hid (by unfold trgT; rw [hg]; rfl)
    have CA := Lib.hid (C.out true hg)
    obtain ⟨hx, hs⟩ := goodTg_yes hg
    have CO := Lib.hid (fun W (q : Below w.heap.size w W) => specOnT xs v s W B (h.below (q.mono hB)) (Nat.le_trans hB q.size) hx hs)
    obtain ⟨ao, cap, rfl⟩ := h.form
    clear h C hg hx hs
    go_enter Try.func34, Try.ntmps34
    go_wp2_with fail
    refine CA.out.mono ?_
    rintro e w1 ⟨rfl, hb⟩
    have bx1 := bx.below hb
    have B1 := N1.trans (hb.mono N1.size)
    clear hb bx N1
    have c0 := bx1.2 0 _ rfl
    have c1 := bx1.2 1 _ rfl
    have c2 := bx1.2 2 _ rfl
    have c3 := bx1.2 3 _ rfl
    go_wp2_with fail
    refine (CO.out _ B1).mono ?_
    rintro e w2 ⟨v', rfl, hO, hb⟩
    obtain ⟨ao2, cap2, rfl⟩ := hO.form
    go_wp2
    go_ret2
    exact ⟨_, rfl, by rw [HF.out]; exact hO.mono B1.size (Nat.le_refl _), B1.trans (hb.mono B1.size)⟩
set_option maxRecDepth 100000 in
set_option maxHeartbeats 4000000 in
theorem specOns (xs : List Int) (v : Value) (s : GSetting) (v2 : Value) (w : World) (B : Nat) (h : Lst (Value.int .i64) w B v xs) (h2 : SettingVL w B v2 s) (hB : B ≤ w.heap.size) (hn : xs.length ≤ 1048576) (_ : sz1Setting s ≤ 1048576) (hw : wfSetting s) :
    Calls Try.prog 28 #[v, v2] w fun e w' => ∃ v', e = .returned (.tuple #[v', .bool (goodTg xs s)]) ∧ Own (Value.int .i64) w' w.heap.size w'.heap.size v' (onsT xs s) ∧ Below w.heap.size w w' := by
  obtain rfl := h2.form
  clear h2
  have N1 := ((Below.refl w.heap.size w).alloc (Nat.le_refl _) (.cells #[.int .i64 s.pShort, .int .i64 s.pLong, .int .i64 s.pOn, .int .i64 s.pOff] 28)).alloc (by first | omega | (simp; done) | (simp; omega)) (.cells #[] 3)
  have bx := (Bx.new w [.int .i64 s.pShort, .int .i64 s.pLong, .int .i64 s.pOn, .int .i64 s.pOff] 28).alloc (.cells #[] 3)
  have hr0 := row_emptyQ w (.cells #[.int .i64 s.pShort, .int .i64 s.pLong, .int .i64 s.pOn, .int .i64 s.pOff] 28) (base := w.heap.size) 3 1 (Nat.le_succ _)
  have hz0 : w.heap.size + 1 < ((w.alloc (.cells #[.int .i64 s.pShort, .int .i64 s.pLong, .int .i64 s.pOn, .int .i64 s.pOff] 28)).alloc (.cells #[] 3)).heap.size := by simp
  have C := Lib.hid (fun u hu => specAskT xs v s u _ B (h.below (N1.mono hB)) (Nat.le_trans hB N1.size) hw hu)
  cases hg : goodTg xs s with
  | false =>
    have HF : Hid (onsT xs s = []) := Lib.hid (by unfold onsT; rw [hg]; rfl)
    have CA := Lib.hid (C.out false hg)
    obtain ⟨ao, cap, rfl⟩ := h.form
    clear h C hg
    go_enter Try.func28, Try.ntmps28
    go_wp2_with fail
    refine CA.out.mono ?_
    rintro e w1 ⟨rfl, hb⟩
    have B1 := N1.trans (hb.mono N1.size)
    have hr1 := row_below hr0 hb
    go_wp2
    go_ret2
    exact ⟨_, rfl, by rw [HF.out]; exact Own.of_row (xs := ([] : List Int)) hr1, B1⟩
  | true =>
    have HF : Hid (onsT xs s = (timesT xs s).map (·.1)) := Lib.hid (by unfold onsT; rw [hg]; rfl)
    have CA := Lib.hid (C.out true hg)
    obtain ⟨hx, hs⟩ := goodTg_yes hg
    have hl24 := (okL_yes hx).2
    have htl := timesT_len xs s
    have CO := Lib.hid (fun W (q : Below w.heap.size w W) => specOnT xs v s W B (h.below (q.mono hB)) (Nat.le_trans hB q.size) hx hs)
    generalize onsT xs s = ons at *
    generalize timesT xs s = tms at *
    obtain ⟨ao, cap, rfl⟩ := h.form
    obtain ⟨ti, hi, hy0, hy1, hy2⟩ := info_parts infoInt
    clear h C hg hx hs
    go_enter Try.func28, Try.ntmps28
    go_wp2_with fail
    refine CA.out.mono ?_
    rintro e w1 ⟨rfl, hb⟩
    have bx1 := bx.below hb
    have B1 := N1.trans (hb.mono N1.size)
    have hr1 := row_below hr0 hb
    have hz1 : w.heap.size + 1 < w1.heap.size := Nat.lt_of_lt_of_le hz0 hb.size
    clear hb bx N1 hr0 hz0
    have c0 := bx1.2 0 _ rfl
    have c1 := bx1.2 1 _ rfl
    have c2 := bx1.2 2 _ rfl
    have c3 := bx1.2 3 _ rfl
    go_wp2_with fail
    refine (CO.out _ B1).mono ?_
    rintro e w2 ⟨v', rfl, hO, hb⟩
    have hr2 := row_below hr1 hb
    have B2 := B1.trans (hb.mono B1.size)
    obtain ⟨ao2, cap2, rfl⟩ := hO.form
    have hS := SideT.of hO (row := some (w.heap.size + 1)) (fun g e => by cases e; exact hz1)
    clear c0 c1 c2 c3 bx1 hb hr1 hO B1
    go_wp2
    go_loopw [6, 8] (fun o i wr => ∃ (k : Nat) (g cp : Nat), k ≤ tms.length ∧ i = .int .i64 k ∧ o = .slice (some ⟨g, 0, none⟩) k cp ∧ wr.ownsRow w.heap.size 3 1 (.slice (some ⟨g, 0, none⟩) k cp) k (((tms.map (·.1)).take k).map (Value.int .i64)) ∧ SideT wr (some g) ao2 tms ∧ Below w.heap.size w wr) (fun _ i _ => tms.length - (intOf i).toNat)
    case atStart => exact ⟨0, _, _, Nat.zero_le _, rfl, rfl, hr2, hS, B2⟩
    case round =>
      obtain ⟨k, g, cp, hk, rfl, rfl, hrow, hS2, hbl⟩ := hrel
      clear hr2 hS B2
      have hsz := hbl.size
      by_cases hlt : k < tms.length
      case neg =>
        obtain rfl : k = tms.length := by omega
        have HE : Hid (tms.map (·.1) = ons) := Lib.hid HF.out.symm
        have := Own.of_row hrow
        rw [List.take_of_length_le (by simp), HE.out] at this
        have HO := Lib.hid this
        clear this
        go_wp2
        go_ret2
        exact ⟨_, rfl, HO.out, hbl⟩
      obtain ⟨q, hq⟩ := get_of_lt hlt
      obtain ⟨b, off, rfl, hblt, hne, hce⟩ := hS2 k q hq
      have HR2 : Hid (((tms.map (·.1)).take (k + 1)).map (Value.int .i64) = ((tms.map (·.1)).take k).map (Value.int .i64) ++ [.int .i64 q.1]) := Lib.hid (by rw [take_snoc (x := q.1) (by rw [List.getElem?_map, hq]; rfl), List.map_append]; rfl)
      have e0 : wr.cell? ⟨b, off + k * 2, none⟩ = some (.int .i64 q.1) := hce 0 _ rfl
      have e1 : wr.cell? ⟨b, off + k * 2 + 1, none⟩ = some (.int .i64 q.2) := hce 1 _ rfl
      have hk0 : (0 : Int) ≤ (k : Int) := by omega
      have hk1 : (k : Int) < (tms.length : Int) := by omega
      clear hq hce
      generalize ((tms.map (·.1)).take k).map (Value.int .i64) = rr at *
      go_wp2_with (at_builtin; refine wpList_append_srcK _ rfl _ _ 22 rfl w.heap.size 3 ti (.int .i64 0) 1 8 Try.underlying22 hi hy0 hy1 hy2 rfl (by decide) _ k rr rfl (hrow.alloc _) _ 1 [.int .i64 q.1] rfl (srcK_box (cs := [.int .i64 q.1]) (Bx.new _ [.int .i64 q.1] _) (by simp [Value.oneCell'])) (by unfold maxLen; omega) (by omega) (by simp; omega) ?_; intro v' w5 hown hgrow hob)
      have hbl5 := below_append hbl hrow hgrow hsz
      obtain ⟨g5, cp5, rfl, -, -, -, -⟩ := row_some hown (by omega)
      have hS5 : SideT w5 (some g5) (some ⟨b, off, none⟩) tms := (hS2.alloc (.cells #[.int .i64 q.1] 3)).grown hgrow hob
      have hrow5 : w5.ownsRow w.heap.size 3 1 (.slice (some ⟨g5, 0, none⟩) (k + 1) cp5) (k + 1) (((tms.map (·.1)).take (k + 1)).map (Value.int .i64)) := by rw [HR2.out]; exact hown
      clear hown hgrow hob hrow hS2 hbl
      go_wp2
      go_roundw
      case rel => exact ⟨k + 1, g5, cp5, by omega, by go_num, rfl, hrow5, hS5, hbl5⟩
      case measure => simp [intOf]; omega
end Go.Proofs.Ytklilfbokpljkab
