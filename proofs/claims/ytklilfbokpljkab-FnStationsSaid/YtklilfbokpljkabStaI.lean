/- Ids of stations that are wanted. -/
import Derived.Test.YtklilfbokpljkabStaL
import Derived.Test.YtklilfbokpljkabAcc
namespace Go.Proofs.Ytklilfbokpljkab
open Go.ChangeShapes Go.WideShapes Go.ChangeAt Go.RowKit Go.ChangeMaps Go.Sort
set_option linter.unusedSimpArgs false
set_option linter.unusedVariables false

def idsP (p : GStation → Bool) (xs : List GStation) : List Int := (xs.filter p).map fun s => s.pId
theorem idsP_y {p : GStation → Bool} {xs : List GStation} {k : Nat} {s : GStation} (h : xs[k]? = some s) (hp : p s = true) : idsP p (xs.take (k + 1)) = idsP p (xs.take k) ++ [s.pId] := by
  unfold idsP; rw [take_snoc h, List.filter_append, List.map_append]; simp [List.filter_cons, hp]
theorem idsP_n {p : GStation → Bool} {xs : List GStation} {k : Nat} {s : GStation} (h : xs[k]? = some s) (hp : p s = false) : idsP p (xs.take (k + 1)) = idsP p (xs.take k) := by
  unfold idsP; rw [take_snoc h, List.filter_append, List.map_append]; simp [List.filter_cons, hp]
theorem idsP_len (p : GStation → Bool) (xs : List GStation) : (idsP p xs).length ≤ xs.length := by
  unfold idsP; rw [List.length_map]; exact List.length_filter_le _ _
theorem idsP_lenk (p : GStation → Bool) (xs : List GStation) (k : Nat) : (idsP p (xs.take k)).length ≤ k := Nat.le_trans (idsP_len p _) (by rw [List.length_take]; omega)
def seeB (f : Int) (s : GStation) : Bool := inB f s.pLow s.pHigh
def uncB (t : Int) (s : GStation) : Bool := decide (s.pUntil < t)
noncomputable def okSee (xs : List GStation) (f : Int) : Bool := goodL xs && inB f 1 5000
noncomputable def okUnc (xs : List GStation) (f : Int) : Bool := goodL xs && inB f 0 1000000
noncomputable def resSee (xs : List GStation) (f : Int) : List Int := if okSee xs f then idsP (seeB f) xs else []
noncomputable def resUnc (xs : List GStation) (f : Int) : List Int := if okUnc xs f then idsP (uncB f) xs else []
theorem and_f1 {a b : Bool} (h : ¬ a = true) : (a && b) = false := by rw [bool_f h]; rfl
theorem and_f2 {a b : Bool} (h : b = false) : (a && b) = false := by rw [h, Bool.and_false]
theorem and_t {a b : Bool} (h : a = true) (g : b = true) : (a && b) = true := by rw [h, g]; rfl
theorem ret_vb {v : Value} {a b : Bool} (h : a = b) : Ending.returned (.tuple #[v, .bool a]) = .returned (.tuple #[v, .bool b]) := by rw [h]

set_option maxHeartbeats 400000 in
theorem cloSee (s : GStation) (f : Int) (bf : Nat) (w : World) (hc : w.cell? ⟨bf, 0, none⟩ = some (.int .i64 f)) :
    Calls Try.prog 110 #[.agg #[.int .i64 s.pId, .string s.pName, .int .i64 s.pX, .int .i64 s.pY, .int .i64 s.pGain, .int .i64 s.pLow, .int .i64 s.pHigh, .int .i64 s.pUntil], .pointer (some ⟨bf, 0, none⟩)] w fun e w' => e = .returned (.bool (seeB f s)) ∧ Below w.heap.size w w' := by
  have hlt : bf < w.heap.size := cell_of_lt hc
  by_cases h1 : s.pLow ≤ f
  case neg =>
    have H := Lib.hid (show seeB f s = false from inB_no (fun g => h1 g.1))
    go_enter Try.func110, Try.ntmps110
    go_wp2
    go_ret
    exact ⟨ret_bool H.out.symm, (Below.refl _ _).alloc (Nat.le_refl _) _⟩
  by_cases h2 : f ≤ s.pHigh
  case neg =>
    have H := Lib.hid (show seeB f s = false from inB_no (fun g => h2 g.2))
    go_enter Try.func110, Try.ntmps110
    go_wp2
    go_ret
    exact ⟨ret_bool H.out.symm, (Below.refl _ _).alloc (Nat.le_refl _) _⟩
  have H := Lib.hid (show seeB f s = true from inB_yes ⟨h1, h2⟩)
  go_enter Try.func110, Try.ntmps110
  go_wp2
  go_ret
  exact ⟨ret_bool H.out.symm, (Below.refl _ _).alloc (Nat.le_refl _) _⟩
set_option maxRecDepth 100000 in
set_option maxHeartbeats 1000000 in
theorem whereSee (xs : List GStation) (v : Value) (f : Int) (bf : Nat) (w : World) (B : Nat) (h : StationL w B v xs) (hB : B ≤ w.heap.size) (hlen : xs.length ≤ 10) (hbf : w.cell? ⟨bf, 0, none⟩ = some (.int .i64 f)) :
    Calls Try.prog 109 #[v, .func (.func 110) #[] #[.pointer (some ⟨bf, 0, none⟩)]] w fun e w' => ∃ v', e = .returned v' ∧ Own (Value.int .i64) w' w.heap.size w'.heap.size v' (idsP (seeB f) xs) ∧ Below w.heap.size w w' := by
  obtain ⟨ao, cap, rfl, hcap, hmax, hnn, hc⟩ := h
  unfold maxLen at hmax
  have hblt : bf < w.heap.size := cell_of_lt hbf
  have HC := Lib.hid hc
  clear hc hnn
  obtain ⟨ti, hi, hz0, hz1, hz2⟩ := info_parts infoInt
  have hrow0 := row_empty w (base := w.heap.size) 3 1 (Nat.le_refl _)
  have hb0 : Below w.heap.size w (w.alloc (.cells #[] 3)) := (Below.refl _ _).alloc (Nat.le_refl _) _
  go_enter Try.func109, Try.ntmps109
  go_wp2
  go_loopw [5, 11] (fun o i wr => ∃ (k : Nat) (v : Value), k ≤ xs.length ∧ i = .int .i64 k ∧ o = v ∧ wr.ownsRow w.heap.size 3 1 v (idsP (seeB f) (xs.take k)).length ((idsP (seeB f) (xs.take k)).map (Value.int .i64)) ∧ (∃ ao cap, v = .slice ao (idsP (seeB f) (xs.take k)).length cap) ∧ Below w.heap.size w wr)
    (fun _ i _ => xs.length - (intOf i).toNat)
  case atStart => exact ⟨0, _, Nat.zero_le _, rfl, rfl, by simpa [idsP] using hrow0, ⟨some ⟨w.heap.size, 0, none⟩, 0, by simp [idsP]⟩, hb0⟩
  case round =>
    obtain ⟨k, _, hk, rfl, rfl, hrow, ⟨aoo, capo, rfl⟩, hbl⟩ := hrel
    have hsz := hbl.size
    have hcl := idsP_lenk (seeB f) xs k
    by_cases hlt : k < xs.length
    case neg =>
      obtain rfl : k = xs.length := by omega
      rw [List.take_length] at *
      go_wp2
      go_ret
      exact ⟨_, rfl, Own.of_row hrow, hbl⟩
    obtain ⟨s, hs⟩ := get_of_lt hlt
    obtain ⟨b, off, rfl, hb, hcell⟩ := HC.out k s hs
    have c0 : wr.cell? ⟨b, off + k * 8, none⟩ = some (.int .i64 s.pId) := cellOf hbl (by omega) (hcell 0 _ rfl)
    have c1 : wr.cell? ⟨b, off + k * 8 + 1, none⟩ = some (.string s.pName) := cellOf hbl (by omega) (hcell 1 _ rfl)
    have c2 : wr.cell? ⟨b, off + k * 8 + 2, none⟩ = some (.int .i64 s.pX) := cellOf hbl (by omega) (hcell 2 _ rfl)
    have c3 : wr.cell? ⟨b, off + k * 8 + 3, none⟩ = some (.int .i64 s.pY) := cellOf hbl (by omega) (hcell 3 _ rfl)
    have c4 : wr.cell? ⟨b, off + k * 8 + 4, none⟩ = some (.int .i64 s.pGain) := cellOf hbl (by omega) (hcell 4 _ rfl)
    have c5 : wr.cell? ⟨b, off + k * 8 + 5, none⟩ = some (.int .i64 s.pLow) := cellOf hbl (by omega) (hcell 5 _ rfl)
    have c6 : wr.cell? ⟨b, off + k * 8 + 6, none⟩ = some (.int .i64 s.pHigh) := cellOf hbl (by omega) (hcell 6 _ rfl)
    have c7 : wr.cell? ⟨b, off + k * 8 + 7, none⟩ = some (.int .i64 s.pUntil) := cellOf hbl (by omega) (hcell 7 _ rfl)
    have HY := Lib.hid (fun hp => idsP_y (p := seeB f) hs hp)
    have HN := Lib.hid (fun hp => idsP_n (p := seeB f) hs hp)
    clear hs hcell
    have bx := Bx.new wr [.int .i64 s.pId, .string s.pName, .int .i64 s.pX, .int .i64 s.pY, .int .i64 s.pGain, .int .i64 s.pLow, .int .i64 s.pHigh, .int .i64 s.pUntil] 60
    have N1 := (Below.refl wr.heap.size wr).alloc (Nat.le_refl _) (.cells #[.int .i64 s.pId, .string s.pName, .int .i64 s.pX, .int .i64 s.pY, .int .i64 s.pGain, .int .i64 s.pLow, .int .i64 s.pHigh, .int .i64 s.pUntil] 60)
    have hf1 : (wr.alloc (.cells #[.int .i64 s.pId, .string s.pName, .int .i64 s.pX, .int .i64 s.pY, .int .i64 s.pGain, .int .i64 s.pLow, .int .i64 s.pHigh, .int .i64 s.pUntil] 60)).cell? ⟨bf, 0, none⟩ = some (.int .i64 f) := cellOf (hbl.trans (N1.mono hsz)) hblt hbf
    have C := Lib.hid (cloSee s f bf _ hf1)
    clear hf1
    generalize hcs : idsP (seeB f) (xs.take k) = cs at *
    clear hcs
    generalize hp : seeB f s = pv at *
    have HP := Lib.hid hp
    clear hp
    have hrow1 := hrow.alloc (.cells #[.int .i64 s.pId, .string s.pName, .int .i64 s.pX, .int .i64 s.pY, .int .i64 s.pGain, .int .i64 s.pLow, .int .i64 s.pHigh, .int .i64 s.pUntil] 60)
    cases pv with
    | false =>
      go_wp2_with fail
      refine C.out.mono ?_
      rintro e w2 ⟨rfl, hb2⟩
      have hrow2 := row_below hrow1 hb2
      have hbl2 := hbl.trans ((N1.trans (hb2.mono (by simp))).mono hsz)
      clear hb2 hrow hrow1 hbl N1 bx
      go_wp2
      go_roundw
      case rel => exact ⟨k + 1, _, by omega, by go_num, rfl, by rw [HN.out (by first | exact HP.out | trivial)]; exact hrow2, by rw [HN.out (by first | exact HP.out | trivial)]; exact ⟨_, _, rfl⟩, hbl2⟩
      case measure => simp [intOf]; omega
    | true =>
      go_wp2_with fail
      refine C.out.mono ?_
      rintro e w2 ⟨rfl, hb2⟩
      have hrow2 := row_below hrow1 hb2
      have hbl2 := hbl.trans ((N1.trans (hb2.mono (by simp))).mono hsz)
      have z2 := hbl2.size
      have bx2 := bx.below hb2
      have q0 := bx2.2 0 _ rfl
      clear hb2 hrow hrow1 hbl N1 bx
      go_wp2_with (at_builtin; refine wpList_append_own _ rfl _ _ 22 rfl (w.heap.size) 3 ti (.int .i64 0) 1 8 Try.underlying22 hi hz0 hz1 hz2 rfl (by decide) _ (cs).length ((cs).map (Value.int .i64)) rfl (hrow2.alloc _) ⟨w2.heap.size, 0, none⟩ 1 1 [.int .i64 s.pId] rfl rfl (cell_one_new _ _ _) (by simp [Value.oneCell']) (by unfold maxLen; omega) (by omega) (by first | omega | (simp; done) | (simp; omega)) ?_; intro v' w3 hown' hgrow _)
      have b3 := below_app2 hrow2 hgrow z2 (Nat.le_refl _)
      have hrow3 : w3.ownsRow w.heap.size 3 1 v' (cs ++ [s.pId]).length ((cs ++ [s.pId]).map (Value.int .i64)) := by simpa using hown'
      obtain ⟨a3, c3, rfl⟩ := row_form hrow3
      clear hown' hgrow hrow2
      go_wp2
      go_roundw
      case rel => exact ⟨k + 1, _, by omega, by go_num, rfl, by rw [HY.out (by first | exact HP.out | trivial)]; exact hrow3, by rw [HY.out (by first | exact HP.out | trivial)]; exact ⟨_, _, rfl⟩, hbl2.trans b3⟩
      case measure => simp [intOf]; omega

set_option maxHeartbeats 1000000 in
theorem implSee (xs : List GStation) (v : Value) (f : Int) (w : World) (B : Nat) (h : StationL w B v xs) (hB : B ≤ w.heap.size) (hn : szsStation xs ≤ 1048576) (hw : ∀ s ∈ xs, wfStation s) (_ : I64 f) :
    Calls Try.prog 63 #[v, .int .i64 f] w fun e w' => ∃ v', e = .returned (.tuple #[v', .bool (okSee xs f)]) ∧ Own (Value.int .i64) w' w.heap.size w'.heap.size v' (resSee xs f) ∧ Below w.heap.size w w' := by
  have N1 := (Below.refl w.heap.size w).alloc (Nat.le_refl _) (.cells #[.int .i64 f] 3)
  have bx := Bx.new w [.int .i64 f] 3
  have h1 := h.below (N1.mono hB)
  unfold resSee
  by_cases hg : goodL xs = true
  case neg =>
    have C := Lib.hid (implAreV xs v _ B h1 (Nat.le_trans hB N1.size) hn hw false (bool_f hg))
    have HO : Hid (okSee xs f = false) := Lib.hid (and_f1 hg)
    clear hg
    rw [HO.out]
    obtain ⟨ao, cap, rfl, -⟩ := h
    go_enter Try.func63, Try.ntmps63
    go_wp2_with fail
    refine C.out.mono ?_
    rintro e w1 ⟨rfl, hb⟩
    have C1 := N1.trans (hb.mono N1.size)
    go_wp2
    go_ret2
    exact ⟨_, rfl, own_empty w1 3 C1.size, C1.alloc C1.size _⟩
  have C := Lib.hid (implAreV xs v _ B h1 (Nat.le_trans hB N1.size) hn hw true hg)
  have hlen := goodL_len hg
  by_cases hf : inB f 1 5000 = true
  case neg =>
    have HO : Hid (okSee xs f = false) := Lib.hid (and_f2 (bool_f hf))
    have HF := Lib.hid (bool_f hf)
    clear hg hf
    rw [HO.out]
    obtain ⟨ao, cap, rfl, -⟩ := h
    go_enter Try.func63, Try.ntmps63
    go_wp2_with fail
    refine C.out.mono ?_
    rintro e w1 ⟨rfl, hb⟩
    have C1 := N1.trans (hb.mono N1.size)
    have q0 := (bx.below hb).2 0 _ rfl
    go_wp2_with fail
    refine (implFreq _ false _ HF.out).mono ?_
    rintro e w2 ⟨rfl, rfl⟩
    go_wp2
    go_ret2
    exact ⟨_, rfl, own_empty w1 3 C1.size, C1.alloc C1.size _⟩
  have HO : Hid (okSee xs f = true) := Lib.hid (and_t hg hf)
  have HF := Lib.hid hf
  clear hg hf
  rw [HO.out]
  have HL := Lib.hid h
  obtain ⟨ao, cap, rfl⟩ := h.form
  clear h
  go_enter Try.func63, Try.ntmps63
  go_wp2_with fail
  refine C.out.mono ?_
  rintro e w1 ⟨rfl, hb⟩
  have C1 := N1.trans (hb.mono N1.size)
  have q0 := (bx.below hb).2 0 _ rfl
  go_wp2_with fail
  refine (implFreq _ true _ HF.out).mono ?_
  rintro e w2 ⟨rfl, rfl⟩
  go_wp2_with fail
  refine (whereSee xs _ f w.heap.size _ B (HL.out.below (C1.mono hB)) (Nat.le_trans hB C1.size) hlen q0).mono ?_
  rintro e w2 ⟨v', rfl, ho, hb2⟩
  obtain ⟨ao', cap', rfl⟩ := ho.form
  go_wp2
  go_ret2
  exact ⟨_, rfl, ho.mono C1.size (Nat.le_refl _), C1.trans (hb2.mono C1.size)⟩

set_option maxRecDepth 100000 in
set_option maxHeartbeats 1000000 in
theorem specSee (xs : List GStation) (v : Value) (f : Int) (w : World) (B : Nat) (h : StationL w B v xs) (hB : B ≤ w.heap.size) (hn : szsStation xs ≤ 1048576) (hw : ∀ s ∈ xs, wfStation s) (_ : I64 f) :
    Calls Try.prog 66 #[v, .int .i64 f] w fun e w' => ∃ v', e = .returned (.tuple #[v', .bool (okSee xs f)]) ∧ Own (Value.int .i64) w' w.heap.size w'.heap.size v' (resSee xs f) ∧ Below w.heap.size w w' := by
  have N1 := (Below.refl w.heap.size w).alloc (Nat.le_refl _) (.cells #[] 3)
  have hrow0 := row_empty w (base := w.heap.size) 3 1 (Nat.le_refl _)
  have h1 := h.below (N1.mono hB)
  unfold resSee
  by_cases hg : goodL xs = true
  case neg =>
    have C := Lib.hid (specGoodV xs v _ B h1 (Nat.le_trans hB N1.size) hn hw false (bool_f hg))
    have HO : Hid (okSee xs f = false) := Lib.hid (and_f1 hg)
    clear hg
    rw [HO.out]
    obtain ⟨ao, cap, rfl, -⟩ := h
    go_enter Try.func66, Try.ntmps66
    go_wp2_with fail
    refine C.out.mono ?_
    rintro e w1 ⟨rfl, hb⟩
    have C1 := N1.trans (hb.mono N1.size)
    have hr1 := row_below hrow0 hb
    go_wp2
    go_ret2
    exact ⟨_, rfl, Own.of_row (xs := ([] : List Int)) hr1, C1⟩
  have C := Lib.hid (specGoodV xs v _ B h1 (Nat.le_trans hB N1.size) hn hw true hg)
  have hlen := goodL_len hg
  by_cases hf : inB f 1 5000 = true
  case neg =>
    have HO : Hid (okSee xs f = false) := Lib.hid (and_f2 (bool_f hf))
    have HF := Lib.hid (bool_f hf)
    clear hg hf
    rw [HO.out]
    obtain ⟨ao, cap, rfl, -⟩ := h
    go_enter Try.func66, Try.ntmps66
    go_wp2_with fail
    refine C.out.mono ?_
    rintro e w1 ⟨rfl, hb⟩
    have C1 := N1.trans (hb.mono N1.size)
    have hr1 := row_below hrow0 hb
    go_wp2_with fail
    refine (specFreq _ false _ HF.out).mono ?_
    rintro e w2 ⟨rfl, rfl⟩
    go_wp2
    go_ret2
    exact ⟨_, rfl, Own.of_row (xs := ([] : List Int)) hr1, C1⟩
  have HO : Hid (okSee xs f = true) := Lib.hid (and_t hg hf)
  have HF := Lib.hid hf
  clear hg hf
  rw [HO.out]
  obtain ⟨ao, cap, rfl, hcap, hmax, hnn, hc⟩ := h
  unfold maxLen at hmax
  have HC := Lib.hid hc
  clear hc hnn
  obtain ⟨ti, hi, hz0, hz1, hz2⟩ := info_parts infoInt
  go_enter Try.func66, Try.ntmps66
  go_wp2_with fail
  refine C.out.mono ?_
  rintro e w1 ⟨rfl, hb⟩
  have C1 := N1.trans (hb.mono N1.size)
  have hr1 := row_below hrow0 hb
  clear hb hrow0 N1
  go_wp2_with fail
  refine (specFreq _ true _ HF.out).mono ?_
  rintro e w2 ⟨rfl, rfl⟩
  go_wp2
  go_loopw [6, 7] (fun o i wr => ∃ (k : Nat) (v : Value), k ≤ xs.length ∧ i = .int .i64 k ∧ o = v ∧ wr.ownsRow w.heap.size 3 1 v (idsP (seeB f) (xs.take k)).length ((idsP (seeB f) (xs.take k)).map (Value.int .i64)) ∧ (∃ ao cap, v = .slice ao (idsP (seeB f) (xs.take k)).length cap) ∧ Below w.heap.size w wr)
    (fun _ i _ => xs.length - (intOf i).toNat)
  case atStart => exact ⟨0, _, Nat.zero_le _, rfl, rfl, by simpa [idsP] using hr1, ⟨some ⟨w.heap.size, 0, none⟩, 0, by simp [idsP]⟩, C1⟩
  case round =>
    obtain ⟨k, _, hk, rfl, rfl, hrow, ⟨aoo, capo, rfl⟩, hbl⟩ := hrel
    have hsz := hbl.size
    have hcl := idsP_lenk (seeB f) xs k
    by_cases hlt : k < xs.length
    case neg =>
      obtain rfl : k = xs.length := by omega
      rw [List.take_length] at *
      go_wp2
      go_ret2
      exact ⟨_, rfl, Own.of_row hrow, hbl⟩
    obtain ⟨s, hs⟩ := get_of_lt hlt
    obtain ⟨b, off, rfl, hb, hcell⟩ := HC.out k s hs
    have c0 : wr.cell? ⟨b, off + k * 8, none⟩ = some (.int .i64 s.pId) := cellOf hbl (by omega) (hcell 0 _ rfl)
    have c1 : wr.cell? ⟨b, off + k * 8 + 1, none⟩ = some (.string s.pName) := cellOf hbl (by omega) (hcell 1 _ rfl)
    have c2 : wr.cell? ⟨b, off + k * 8 + 2, none⟩ = some (.int .i64 s.pX) := cellOf hbl (by omega) (hcell 2 _ rfl)
    have c3 : wr.cell? ⟨b, off + k * 8 + 3, none⟩ = some (.int .i64 s.pY) := cellOf hbl (by omega) (hcell 3 _ rfl)
    have c4 : wr.cell? ⟨b, off + k * 8 + 4, none⟩ = some (.int .i64 s.pGain) := cellOf hbl (by omega) (hcell 4 _ rfl)
    have c5 : wr.cell? ⟨b, off + k * 8 + 5, none⟩ = some (.int .i64 s.pLow) := cellOf hbl (by omega) (hcell 5 _ rfl)
    have c6 : wr.cell? ⟨b, off + k * 8 + 6, none⟩ = some (.int .i64 s.pHigh) := cellOf hbl (by omega) (hcell 6 _ rfl)
    have c7 : wr.cell? ⟨b, off + k * 8 + 7, none⟩ = some (.int .i64 s.pUntil) := cellOf hbl (by omega) (hcell 7 _ rfl)
    have HY := Lib.hid (fun hp => idsP_y (p := seeB f) hs hp)
    have HN := Lib.hid (fun hp => idsP_n (p := seeB f) hs hp)
    clear hs hcell
    have hi0 : (0 : Int) ≤ (k : Int) := by omega
    have hi1 : (k : Int) < (xs.length : Int) := by omega
    generalize hcs : idsP (seeB f) (xs.take k) = cs at *
    clear hcs
    generalize hp : seeB f s = pv at *
    have HP := Lib.hid hp
    clear hp
    have cc := fun d os => Calls.regrown_of (w := wr) (d := d) (os := os) ((specIn f s.pLow s.pHigh pv _ HP.out).mono fun e w' ⟨h, hw⟩ => ⟨h, hw ▸ Below.refl _ _⟩)
    have r5 := cell_regrown c5
    have r6 := cell_regrown c6
    go_wp2
    refine wp_region_quiet_below (by kernel_rfl) (by kernel_rfl) ?_
    repeat (go_big_quiet_step (exact cc _ _))
    refine wpQuiet_nil ?_
    intro _ hw'
    obtain ⟨⟨dq, osq⟩, hw''⟩ := hw'
    subst hw''
    have hb2 := below_regrown (wr) dq osq
    generalize grow (redrawn (wr) dq) osq = w2 at *
    clear cc r5 r6
    have hrow2 := row_below hrow hb2
    have hbl2 := hbl.trans (hb2.mono hsz)
    have z2 := hbl2.size
    have q0 := cellOf hb2 (cell_of_lt c0) c0
    clear hb2 hrow hbl
    cases pv with
    | false =>
      go_wp2
      go_roundw
      case rel => exact ⟨k + 1, _, by omega, by go_num, rfl, by rw [HN.out (by first | exact HP.out | trivial)]; exact hrow2, by rw [HN.out (by first | exact HP.out | trivial)]; exact ⟨_, _, rfl⟩, hbl2⟩
      case measure => simp [intOf]; omega
    | true =>
      go_wp2_with (at_builtin; refine wpList_append_own _ rfl _ _ 22 rfl (w.heap.size) 3 ti (.int .i64 0) 1 8 Try.underlying22 hi hz0 hz1 hz2 rfl (by decide) _ (cs).length ((cs).map (Value.int .i64)) rfl (hrow2.alloc _) ⟨w2.heap.size, 0, none⟩ 1 1 [.int .i64 s.pId] rfl rfl (cell_one_new _ _ _) (by simp [Value.oneCell']) (by unfold maxLen; omega) (by omega) (by first | omega | (simp; done) | (simp; omega)) ?_; intro v' w3 hown' hgrow _)
      have b3 := below_app2 (hrow2) hgrow z2 (Nat.le_refl _)
      have hrow3 : w3.ownsRow w.heap.size 3 1 v' (cs ++ [s.pId]).length ((cs ++ [s.pId]).map (Value.int .i64)) := by simpa using hown'
      obtain ⟨a3, c3, rfl⟩ := row_form hrow3
      clear hown' hgrow
      go_wp2
      go_roundw
      case rel => exact ⟨k + 1, _, by omega, by go_num, rfl, by rw [HY.out (by first | exact HP.out | trivial)]; exact hrow3, by rw [HY.out (by first | exact HP.out | trivial)]; exact ⟨_, _, rfl⟩, (hbl2).trans b3⟩
      case measure => simp [intOf]; omega



theorem resSee_len (xs : List GStation) (f : Int) (h : szsStation xs ≤ 1048576) : (resSee xs f).length ≤ 1048576 := by
  unfold resSee; have := idsP_len (seeB f) xs; have := szsStation_len xs; split
  · omega
  · simp
theorem resUnc_len (xs : List GStation) (f : Int) (h : szsStation xs ≤ 1048576) : (resUnc xs f).length ≤ 1048576 := by
  unfold resUnc; have := idsP_len (uncB f) xs; have := szsStation_len xs; split
  · omega
  · simp
end Go.Proofs.Ytklilfbokpljkab
