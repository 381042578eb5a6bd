/- Picks: HistoryOf. -/
import Derived.Test.YtoimoaeaejbfdaaPqT
import Derived.Test.YtoimoaeaejbfdaaAcc
import Derived.Test.YtoimoaeaejbfdaaIns
import Derived.IntWalk
namespace Go.Proofs.Ytoimoaeaejbfdaa
open Go.ChangeShapes Go.WideShapes Go.ChangeAt Go.RowKit Go.ChangeMaps Go.Sort Go.Shelf
set_option linter.unusedSimpArgs false
set_option linter.unusedVariables false

theorem row_empty1 (w : World) (o : Obj) {base : Nat} (e : TypeId) (size : Nat) (h : base ≤ w.heap.size + 1) : ((w.alloc o).alloc (.cells #[] e)).ownsRow base e size (.slice (some ⟨w.heap.size + 1, 0, none⟩) 0 0) 0 [] := by
  have := row_empty (w.alloc o) (base := base) e size (by simpa using h)
  rwa [show (w.alloc o).heap.size = w.heap.size + 1 by simp] at this
theorem own_empty1 {α : Type} {en : α → Value} (w : World) (o : Obj) {L : Nat} (e : TypeId) (h : L ≤ w.heap.size + 1) : Own en ((w.alloc o).alloc (.cells #[] e)) L ((w.alloc o).alloc (.cells #[] e)).heap.size (.slice (some ⟨w.heap.size + 1, 0, none⟩) 0 0) [] := Own.of_row (row_empty1 w o e 1 h)
noncomputable def okH (xs : List GPick) (id : Int) : Bool := goodP xs && (lookP xs id).isSome
noncomputable def resH (xs : List GPick) (id : Int) : List Int := if okH xs id = true then histP xs id else []
theorem h_bad {xs : List GPick} (h : goodP xs = false) (id : Int) : okH xs id = false ∧ resH xs id = [] := by
  have e : okH xs id = false := by unfold okH; rw [h]; rfl
  exact ⟨e, by unfold resH; rw [e]; rfl⟩
theorem h_none {xs : List GPick} {id : Int} (h : lookP xs id = none) : okH xs id = false ∧ resH xs id = [] := by
  have e : okH xs id = false := by unfold okH; rw [h]; exact Bool.and_false _
  exact ⟨e, by unfold resH; rw [e]; rfl⟩
theorem h_yes {xs : List GPick} {id : Int} {p : GPick} (hg : goodP xs = true) (h : lookP xs id = some p) : okH xs id = true ∧ resH xs id = histP xs id := by
  have e : okH xs id = true := by unfold okH; rw [h, hg]; rfl
  exact ⟨e, by unfold resH; rw [e]; rfl⟩
theorem resH_len (xs : List GPick) (id : Int) : (resH xs id).length ≤ 1048576 := by
  unfold resH
  split
  · exact Nat.le_trans (histP_len xs id) (by omega)
  · simp
/-- So far: the Ids before this one. -/
def hisUp (xs : List GPick) (id0 id : Int) (il : List Int) : Prop := histP xs id0 = il ++ histP xs id
theorem hisUp_zero (xs : List GPick) (id : Int) : hisUp xs id id [] := rfl
theorem hisUp_succ {xs : List GPick} (ho : okP xs) {id0 id : Int} {il : List Int} {q : GPick} (h : hisUp xs id0 id il) (hq : lookP xs id = some q) : hisUp xs id0 q.pAfter (il ++ [id]) := by
  unfold hisUp at *
  rw [h, histP_some ho hq]
  simp
theorem hisUp_end {xs : List GPick} {id0 id : Int} {il : List Int} (h : hisUp xs id0 id il) (hq : lookP xs id = none) : il = histP xs id0 := by
  unfold hisUp at h
  rw [h, histP_none hq, List.append_nil]
theorem hisUp_len {xs : List GPick} {id0 id : Int} {il : List Int} (h : hisUp xs id0 id il) : il.length ≤ 9999 := by
  have := histP_len xs id0
  rw [h, List.length_append] at this
  omega
/-- What comes behind a pick: nothing, or one that is there. -/
theorem next_look {xs : List GPick} (ho : okP xs) {q : GPick} (hm : q ∈ xs) : q.pAfter = 0 ∨ ∃ r, lookP xs q.pAfter = some r := by
  by_cases h : q.pAfter = 0
  · exact Or.inl h
  · obtain ⟨r, hr, _⟩ := after_some ho hm h
    exact Or.inr ⟨r, hr⟩
set_option maxRecDepth 100000 in
set_option maxHeartbeats 4000000 in
theorem specHis (xs : List GPick) (v : Value) (id : Int) (w : World) (B : Nat) (h : PickL w B v xs) (hB : B ≤ w.heap.size) (hn : szsPick xs ≤ 1048576) (hw : ∀ s ∈ xs, wfPick s) (_ : I64 id) :
    Calls Try.prog 26 #[v, .int .i64 id] w fun e w' => ∃ v', e = .returned (.tuple #[v', .bool (okH xs id)]) ∧ Own (Value.int .i64) w' w.heap.size w'.heap.size v' (resH xs id) ∧ Below w.heap.size w w' := by
  have hl := Nat.le_trans (szsPick_len xs) hn
  have N1 := (Below.refl w.heap.size w).alloc (Nat.le_refl _) (.cells #[] 3)
  have hrow0 := row_empty w (base := w.heap.size) 3 1 (Nat.le_refl _)
  have h1 := h.below (N1.mono hB)
  cases hg : goodP xs with
  | false =>
    have C := Lib.hid (specGoodP xs v false _ B h1 (Nat.le_trans hB N1.size) hl hg)
    obtain ⟨e1, e2⟩ := h_bad hg id
    rw [e1, e2]
    clear hg e1 e2
    obtain ⟨ao, cap, rfl⟩ := h.form
    go_enter Try.func26, Try.ntmps26
    go_wp2_with fail
    refine C.out.mono ?_
    rintro e w1 ⟨rfl, hb⟩
    have C1 := N1.trans (hb.mono N1.size)
    have hr1 := row_below hrow0 hb
    go_wp2
    go_ret2
    exact ⟨_, rfl, Own.of_row (xs := ([] : List Int)) hr1, C1⟩
  | true =>
  have C := Lib.hid (specGoodP xs v true _ B h1 (Nat.le_trans hB N1.size) hl hg)
  have HL := Lib.hid h
  obtain ⟨r, hr⟩ := isIdx_ex xs id
  have HIX := Lib.hid hr
  rcases hr with ⟨rfl, -, hlk⟩ | ⟨j, p, rfl, -, hpi, -, hlk⟩
  · obtain ⟨e1, e2⟩ := h_none hlk
    rw [e1, e2]
    clear hg e1 e2 hlk h1
    obtain ⟨ao, cap, rfl⟩ := h.form
    clear h
    go_enter Try.func26, Try.ntmps26
    go_wp2_with fail
    refine C.out.mono ?_
    rintro e w1 ⟨rfl, hb⟩
    have C1 := N1.trans (hb.mono N1.size)
    have hr1 := row_below hrow0 hb
    go_wp2_with fail
    refine (specFind xs _ id (-1) w1 B (HL.out.below (C1.mono hB)) HIX.out hl).mono ?_
    rintro e w2 ⟨rfl, rfl⟩
    go_wp2
    go_ret2
    exact ⟨_, rfl, Own.of_row (xs := ([] : List Int)) hr1, C1⟩
  have hok := goodP_yes hg
  have hp1 := (okP_mem hok (look_mem hlk).1).1
  obtain ⟨e1, e2⟩ := h_yes hg hlk
  rw [e1]
  generalize hres : resH xs id = res
  have HRES := Lib.hid (hres.symm.trans e2)
  have HOK := Lib.hid hok
  have HLK := Lib.hid (show id = 0 ∨ ∃ r, lookP xs id = some r from Or.inr ⟨p, hlk⟩)
  have hid1 : 1 ≤ id := by omega
  have hid2 : id ≤ 9999 := by omega
  clear hg e1 e2 hlk h1 hres hok hpi hp1
  obtain ⟨ao, cap, rfl, hcap, hmax, hnn, hc⟩ := h
  unfold maxLen at hmax
  have HC := Lib.hid hc
  clear hc hnn
  obtain ⟨tj, hj, hy0, hy1, hy2⟩ := info_parts infoInt
  have k2 : ¬ (j : Int) < 0 := by omega
  have k3 : decide ((j : Int) < 0) = false := decide_eq_false k2
  go_enter Try.func26, Try.ntmps26
  go_wp2_with fail
  refine C.out.mono ?_
  rintro e w1 ⟨rfl, hb⟩
  have C1 := N1.trans (hb.mono N1.size)
  have hr1 := row_below hrow0 hb
  go_wp2_with fail
  refine (specFind xs _ id j w1 B (HL.out.below (C1.mono hB)) HIX.out hl).mono ?_
  rintro e w2 ⟨rfl, rfl⟩
  go_wp2
  go_loopw [1, 6] (fun a o wr => ∃ (q n : Nat) (v : Value) (il : List Int), n ≤ 9999 ∧ q ≤ 9999 ∧ a = .int .i64 n ∧ o = v ∧ Hid (hisUp xs id n il) ∧ Hid ((n : Int) = 0 ∨ ∃ r, lookP xs n = some r) ∧ Hid (il.length = q) ∧ wr.ownsRow w.heap.size 3 1 v q (il.map (Value.int .i64)) ∧ (∃ ao cap, v = .slice ao q cap) ∧ Below w.heap.size w wr)
    (fun a _ _ => (intOf a).toNat)
  case atStart =>
    obtain ⟨n, rfl⟩ : ∃ n : Nat, id = (n : Int) := ⟨id.toNat, by omega⟩
    exact ⟨0, n, _, [], by omega, by omega, rfl, rfl, Lib.hid (hisUp_zero xs _), HLK, Lib.hid rfl, hr1, ⟨_, _, rfl⟩, C1⟩
  case round =>
    obtain ⟨q, n, _, il, hn9, hq9, rfl, rfl, HU, HLN, HLEN, hrow, ⟨oa, oc, rfl⟩, hbl⟩ := hrel
    have hsz := hbl.size
    have hll := hisUp_len HU.out
    by_cases h0 : n = 0
    case pos =>
      have HX : Hid (il = res) := Lib.hid (by rw [HRES.out]; exact hisUp_end HU.out (look_zero HOK.out (by omega)))
      have g1 : ¬ (0 : Int) < (n : Int) := by omega
      have g2 : decide ((0 : Int) < (n : Int)) = false := decide_eq_false g1
      have g3 : decide (0 < n) = false := decide_eq_false (by omega)
      have g4 : ¬ 0 < n := by omega
      clear h0
      go_wp2
      go_ret2
      exact ⟨_, rfl, by rw [← HX.out]; exact Own.of_row hrow, hbl⟩
    have g1 : (0 : Int) < (n : Int) := by omega
    have g4 : 0 < n := by omega
    have hls : ∃ r, lookP xs n = some r := by
      rcases HLN.out with e | e
      · omega
      · exact e
    obtain ⟨p, hp⟩ := hls
    obtain ⟨k, hk, hkid, hkf⟩ := look_some hp
    have HIX2 := Lib.hid (idx_of_first hk hkid hkf)
    have hkl : k < xs.length := (List.getElem?_eq_some_iff.1 hk).1
    have ho1 := okP_mem HOK.out (look_mem hp).1
    unfold oneP at ho1
    have ha0 : 0 ≤ p.pAfter := by omega
    have ha1 : p.pAfter < n := by omega
    have HU2 := Lib.hid (hisUp_succ HOK.out HU.out hp)
    have HN2 := Lib.hid (next_look HOK.out (look_mem hp).1)
    obtain ⟨b, off, rfl, hb, hcell⟩ := HC.out k p hk
    have hc6 := hcell 6 _ rfl
    have HLEN2 : Hid ((il ++ [(n : Int)]).length = q + 1) := Lib.hid (by rw [List.length_append, HLEN.out]; rfl)
    have hq8 : q + 1 ≤ 9999 := by have := hisUp_len HU2.out; rw [HLEN2.out] at this; exact this
    have k0 : (0 : Int) ≤ (k : Int) := by omega
    have k1 : (k : Int) < (xs.length : Int) := by omega
    clear hkf hkid hk hcell ho1 hll h0 hp
    go_wp2_with (at_builtin; refine wpList_append_srcK _ rfl _ _ 30 rfl (w.heap.size) 3 tj (.int .i64 0) 1 8 Try.underlying30 hj hy0 hy1 hy2 rfl (by decide) _ q (il.map (Value.int .i64)) rfl (hrow.alloc _) _ 1 [.int .i64 (n : Int)] rfl ⟨⟨wr.heap.size, 0, none⟩, 1, rfl, by simp, cell_one_new _ _ _, by simp [Value.oneCell']⟩ (by unfold maxLen; omega) (by omega) (by first | omega | (simp; done) | (simp; omega)) ?_; intro v' w3 hown' hgrow hat)
    have b3 := below_app2 hrow hgrow (by have := hbl.size; omega) (Nat.le_refl _)
    have hrow3 : w3.ownsRow w.heap.size 3 1 v' (q + 1) ((il ++ [(n : Int)]).map (Value.int .i64)) := by simpa using hown'
    have hbl3 := hbl.trans b3
    obtain ⟨a3, c3, rfl⟩ := row_form hrow3
    have c6 : w3.cell? ⟨b, off + k * 7 + 6, none⟩ = some (.int .i64 p.pAfter) := cellOf hbl3 (by omega) hc6
    clear hown' hgrow hat b3 hrow
    refine (specFind xs _ (n : Int) k w3 B (HL.out.below (hbl3.mono hB)) HIX2.out hl).mono ?_
    rintro e w4 ⟨rfl, rfl⟩
    obtain ⟨m, hm⟩ : ∃ m : Nat, p.pAfter = (m : Int) := ⟨p.pAfter.toNat, by omega⟩
    rw [hm] at HU2 HN2 c6 ha1
    go_wp2
    go_roundw
    case rel => exact ⟨q + 1, m, _, _, by omega, by omega, rfl, rfl, HU2, HN2, HLEN2, hrow3, ⟨_, _, rfl⟩, hbl3⟩
    case measure => simp [intOf]; omega

theorem row_keep {w w' : World} {base size n : Nat} {e : TypeId} {v : Value} {xs : List Value} (h : w.ownsRow base e size v n xs) (hk : ∀ b, base ≤ b → w'.heap[b]? = w.heap[b]?) : w'.ownsRow base e size v n xs := by
  obtain ⟨hl, h⟩ := h
  refine ⟨hl, ?_⟩
  rcases h with ⟨h1, hn⟩ | ⟨g, cap, cur, h1, hg, hh, rest⟩
  · exact Or.inl ⟨h1, hn⟩
  · exact Or.inr ⟨g, cap, cur, h1, hg, (hk g hg).trans hh, rest⟩
theorem putCells_heap (b ad : Nat) : ∀ (cs : List Value) (w : World) (s : Nat) (b' : Nat), b' ≠ b → (putCells w b ad cs s).heap[b']? = w.heap[b']?
  | [], _, _, _, _ => rfl
  | c :: cs, w, s, b', h => by
    rw [putCells, putCells_heap b ad cs _ _ b' h]
    exact Below.heap_setCell w ⟨b, ad + s, none⟩ c b' h
set_option maxRecDepth 100000 in
set_option maxHeartbeats 4000000 in
theorem implHis (xs : List GPick) (v : Value) (id : Int) (w : World) (B : Nat) (h : PickL w B v xs) (hB : B ≤ w.heap.size) (hn : szsPick xs ≤ 1048576) (hw : ∀ s ∈ xs, wfPick s) (_ : I64 id) :
    Calls Try.prog 21 #[v, .int .i64 id] w fun e w' => ∃ v', e = .returned (.tuple #[v', .bool (okH xs id)]) ∧ Own (Value.int .i64) w' w.heap.size w'.heap.size v' (resH xs id) ∧ Below w.heap.size w w' := by
  have hl := Nat.le_trans (szsPick_len xs) hn
  cases hg : goodP xs with
  | false =>
    have C := Lib.hid (implGoodP xs v false w B h hB hl hg)
    obtain ⟨e1, e2⟩ := h_bad hg id
    rw [e1, e2]
    clear hg e1 e2
    obtain ⟨ao, cap, rfl⟩ := h.form
    go_enter Try.func21, Try.ntmps21
    go_wp2_with fail
    refine C.out.mono ?_
    rintro e w1 ⟨rfl, hb⟩
    go_wp2
    go_ret2
    exact ⟨_, rfl, own_empty w1 3 hb.size, hb.alloc hb.size _⟩
  | true =>
  have C := Lib.hid (implGoodP xs v true w B h hB hl hg)
  have HL := Lib.hid h
  obtain ⟨ao, cap, rfl⟩ := h.form
  clear h
  cases hlk : lookP xs id with
  | none =>
    obtain ⟨e1, e2⟩ := h_none hlk
    rw [e1, e2]
    have HK := Lib.hid hlk
    clear hg e1 e2 hlk
    go_enter Try.func21, Try.ntmps21
    go_wp2_with fail
    refine C.out.mono ?_
    rintro e w1 ⟨rfl, hb⟩
    go_wp2_with fail
    refine (implWithNo xs _ id w1 B (HL.out.below (hb.mono hB)) (Nat.le_trans hB hb.size) hl HK.out).mono ?_
    rintro e w2 ⟨rfl, hb2⟩
    have C2 := hb.trans (hb2.mono hb.size)
    have C3 := C2.alloc C2.size (.cells #[.int .i64 zeroPick.pId, .int .i64 zeroPick.pStation, .int .i64 zeroPick.pWave, .int .i64 zeroPick.pTick, .int .i64 zeroPick.pError, .int .i64 zeroPick.pBy, .int .i64 zeroPick.pAfter] 43)
    go_wp2
    go_ret2
    first
      | exact ⟨_, rfl, own_empty _ 3 C2.size, C2.alloc C2.size _⟩
      | exact ⟨_, rfl, own_empty1 w2 _ 3 (Nat.le_succ_of_le C2.size), C3.alloc C3.size _⟩
  | some p0 =>
  have hok := goodP_yes hg
  obtain ⟨e1, e2⟩ := h_yes hg hlk
  rw [e1]
  generalize hres : resH xs id = res
  have HRES := Lib.hid (hres.symm.trans e2)
  have HOK := Lib.hid hok
  have HPI := Lib.hid (look_mem hlk).2
  have hpo := (okP_mem hok (look_mem hlk).1).1
  have HLK := Lib.hid hlk
  clear hg e1 e2 hlk hres hok
  obtain ⟨tj, hj, hy0, hy1, hy2⟩ := info_parts infoInt
  go_enter Try.func21, Try.ntmps21
  go_wp2_with fail
  refine C.out.mono ?_
  rintro e w1 ⟨rfl, hb⟩
  go_wp2_with fail
  refine (implWithYes xs _ id p0 w1 B (HL.out.below (hb.mono hB)) (Nat.le_trans hB hb.size) hl HLK.out).mono ?_
  rintro e w2 ⟨rfl, hb2⟩
  have C2 := hb.trans (hb2.mono hb.size)
  have z2 := C2.size
  have bx0 : Bx ((w2.alloc (.cells #[.int .i64 p0.pId, .int .i64 p0.pStation, .int .i64 p0.pWave, .int .i64 p0.pTick, .int .i64 p0.pError, .int .i64 p0.pBy, .int .i64 p0.pAfter] 43)).alloc (.cells #[] 3)) w2.heap.size (encPick p0) := (Bx.new w2 (encPick p0) 43).alloc _
  have C3 : Below w.heap.size w ((w2.alloc (.cells #[.int .i64 p0.pId, .int .i64 p0.pStation, .int .i64 p0.pWave, .int .i64 p0.pTick, .int .i64 p0.pError, .int .i64 p0.pBy, .int .i64 p0.pAfter] 43)).alloc (.cells #[] 3)) := (C2.alloc C2.size _).alloc (by first | omega | (simp; done) | (simp; omega)) _
  have hr0 := row_empty1 w2 (.cells #[.int .i64 p0.pId, .int .i64 p0.pStation, .int .i64 p0.pWave, .int .i64 p0.pTick, .int .i64 p0.pError, .int .i64 p0.pBy, .int .i64 p0.pAfter] 43) (base := w2.heap.size + 1) 3 1 (Nat.le_refl _)
  have zz : w2.heap.size + 1 < ((w2.alloc (.cells #[.int .i64 p0.pId, .int .i64 p0.pStation, .int .i64 p0.pWave, .int .i64 p0.pTick, .int .i64 p0.pError, .int .i64 p0.pBy, .int .i64 p0.pAfter] 43)).alloc (.cells #[] 3)).heap.size := by simp
  have HL0 := Lib.hid (show lookP xs p0.pId = some p0 by rw [HPI.out]; exact HLK.out)
  have HU0 := Lib.hid (show hisUp xs id p0.pId [] by rw [HPI.out]; exact hisUp_zero xs id)
  clear hb hb2 C HLK HPI
  go_wp2
  generalize ((w2.alloc (.cells #[.int .i64 p0.pId, .int .i64 p0.pStation, .int .i64 p0.pWave, .int .i64 p0.pTick, .int .i64 p0.pError, .int .i64 p0.pBy, .int .i64 p0.pAfter] 43)).alloc (.cells #[] 3)) = wz at *
  go_loopg [7, 8] (p0.pId.toNat + 1) (fun gg f o wr => ∃ (fb : Bool) (p : GPick) (q : Nat) (v : Value) (il : List Int), f = .bool fb ∧ o = v ∧ q ≤ 9999 ∧ Bx wr w2.heap.size (encPick p) ∧ (fb = true → p.pId.toNat < gg) ∧ Hid (fb = true → hisUp xs id p.pId il ∧ lookP xs p.pId = some p) ∧ Hid (fb = false → il = res) ∧ wr.ownsRow (w2.heap.size + 1) 3 1 v q (il.map (Value.int .i64)) ∧ (∃ ao cap, v = .slice ao q cap) ∧ w2.heap.size + 1 < wr.heap.size ∧ Below w.heap.size w wr)
  case atStart => exact ⟨true, p0, 0, _, [], rfl, rfl, by omega, bx0, fun _ => by omega, Lib.hid (fun _ => ⟨HU0.out, HL0.out⟩), Lib.hid (fun h => by cases h), hr0, ⟨_, _, rfl⟩, zz, C3⟩
  case round =>
    obtain ⟨fb, p, q, _, il, rfl, rfl, hq9, hbx, hmm, HT, HF, hrow, ⟨oa, oc, rfl⟩, hzr, hbl⟩ := hrel
    have hsz := hbl.size
    cases fb with
    | false =>
      have HX : Hid (il = res) := Lib.hid (HF.out rfl)
      go_wp2
      go_ret2
      exact ⟨_, rfl, by rw [← HX.out]; exact (Own.of_row hrow).mono (by omega) (Nat.le_refl _), hbl⟩
    | true =>
      obtain ⟨hU, hlk⟩ := HT.out rfl
      have hm1 := hmm rfl
      have hll := hisUp_len hU
      have HU2 := Lib.hid (hisUp_succ HOK.out hU hlk)
      have HN2 := Lib.hid (next_look HOK.out (look_mem hlk).1)
      have ho1 := okP_mem HOK.out (look_mem hlk).1
      unfold oneP at ho1
      have ha0 : 0 ≤ p.pAfter := by omega
      have ha1 : p.pAfter < p.pId := by omega
      have hq8 : q + 1 ≤ 9999 := by
        have := hisUp_len HU2.out
        have hl2 := hrow.1
        rw [List.length_append] at this
        simp at hl2 this
        omega
      have c0 : wr.cell? ⟨w2.heap.size, 0, none⟩ = some (.int .i64 p.pId) := hbx.2 0 _ rfl
      have c1 : wr.cell? ⟨w2.heap.size, 1, none⟩ = some (.int .i64 p.pStation) := hbx.2 1 _ rfl
      have c2 : wr.cell? ⟨w2.heap.size, 2, none⟩ = some (.int .i64 p.pWave) := hbx.2 2 _ rfl
      have c3 : wr.cell? ⟨w2.heap.size, 3, none⟩ = some (.int .i64 p.pTick) := hbx.2 3 _ rfl
      have c4 : wr.cell? ⟨w2.heap.size, 4, none⟩ = some (.int .i64 p.pError) := hbx.2 4 _ rfl
      have c5 : wr.cell? ⟨w2.heap.size, 5, none⟩ = some (.int .i64 p.pBy) := hbx.2 5 _ rfl
      have c6 : wr.cell? ⟨w2.heap.size, 6, none⟩ = some (.int .i64 p.pAfter) := hbx.2 6 _ rfl
      clear ho1 hll hmm hlk hU
      go_wp2_with (at_builtin; refine wpList_append_srcK _ rfl _ _ 30 rfl (w2.heap.size + 1) 3 tj (.int .i64 0) 1 8 Try.underlying30 hj hy0 hy1 hy2 rfl (by decide) _ q (il.map (Value.int .i64)) rfl (hrow.alloc _) _ 1 [.int .i64 p.pId] rfl ⟨⟨wr.heap.size, 0, none⟩, 1, rfl, by simp, cell_one_new _ _ _, by simp [Value.oneCell']⟩ (by unfold maxLen; omega) (by omega) (by first | omega | (simp; done) | (simp; omega)) ?_; intro v' w3 hown' hgrow hat; have bx3 := (hbx.alloc (.cells #[.int .i64 p.pId] 3)).grown hgrow (fun e => by have := (hrow.lt w2.heap.size e.symm).1; omega); have e6 := bx3.2 6 _ rfl; have e6 : w3.cell? ⟨w2.heap.size, 6, none⟩ = some (.int .i64 p.pAfter) := e6)
      have b3 := below_app2 hrow hgrow (by omega) (Nat.le_refl _)
      have hrow3 : w3.ownsRow (w2.heap.size + 1) 3 1 v' (q + 1) ((il ++ [p.pId]).map (Value.int .i64)) := by simpa using hown'
      have hbl3 := hbl.trans (b3.mono (by omega))
      have hz3 : wr.heap.size + 1 ≤ w3.heap.size := by have := hgrow.size; simpa using this
      obtain ⟨a3, c3', rfl⟩ := row_form hrow3
      clear hown' hgrow hat b3 hrow hbx e6
      rcases HN2.out with h0 | ⟨r, hr⟩
      · have HLZ := look_zero HOK.out (id := p.pAfter) (by omega)
        have HX2 : Hid (il ++ [p.pId] = res) := Lib.hid (by rw [HRES.out]; exact hisUp_end HU2.out HLZ)
        have CW := Lib.hid (implWithNo xs _ p.pAfter w3 B (HL.out.below (hbl3.mono hB)) (Nat.le_trans hB hbl3.size) hl HLZ)
        clear HLZ
        refine CW.out.mono ?_
        rintro e w4 ⟨rfl, hb4⟩
        have hbl4 := hbl3.trans (hb4.mono hbl3.size)
        have bx4 := bx3.below hb4
        have hrow4 := row_below hrow3 hb4
        have z4 := hb4.size
        have f0 : w4.cell? ⟨w2.heap.size, 0, none⟩ = some (.int .i64 p.pId) := bx4.2 0 _ rfl
        have f1 : w4.cell? ⟨w2.heap.size, 1, none⟩ = some (.int .i64 p.pStation) := bx4.2 1 _ rfl
        have f2 : w4.cell? ⟨w2.heap.size, 2, none⟩ = some (.int .i64 p.pWave) := bx4.2 2 _ rfl
        have f3 : w4.cell? ⟨w2.heap.size, 3, none⟩ = some (.int .i64 p.pTick) := bx4.2 3 _ rfl
        have f4 : w4.cell? ⟨w2.heap.size, 4, none⟩ = some (.int .i64 p.pError) := bx4.2 4 _ rfl
        have f5 : w4.cell? ⟨w2.heap.size, 5, none⟩ = some (.int .i64 p.pBy) := bx4.2 5 _ rfl
        have f6 : w4.cell? ⟨w2.heap.size, 6, none⟩ = some (.int .i64 p.pAfter) := bx4.2 6 _ rfl
        have ff := bx4.1.2
        have bx5 := Lib.hid (bx4.puts (ds := encPick zeroPick) rfl)
        have hrow5 := Lib.hid (row_keep hrow4 (w' := putCells w4 w2.heap.size 0 (encPick zeroPick) 0) (fun b hb => putCells_heap _ _ _ _ _ _ (by omega)))
        have B5 := Lib.hid (below_putCells hbl4 (b := w2.heap.size) z2 0 (encPick zeroPick) 0)
        have Z5 : Hid (w2.heap.size + 1 < (putCells w4 w2.heap.size 0 (encPick zeroPick) 0).heap.size) := Lib.hid (by rw [putCells_size]; omega)
        clear bx4 hrow4 hrow3 bx3
        go_wp2
        go_roundg (p.pAfter.toNat + 1)
        case measure => omega
        case rel =>
          change ∃ (fb : Bool) (p : GPick) (q : Nat) (v : Value) (il : List Int), _ ∧ _ ∧ q ≤ 9999 ∧ Bx (putCells w4 w2.heap.size 0 (encPick zeroPick) 0) w2.heap.size (encPick p) ∧ _
          exact ⟨false, zeroPick, q + 1, _, _, rfl, rfl, hq8, bx5.out, fun h => (by cases h), Lib.hid (fun h => by cases h), Lib.hid (fun _ => HX2.out), hrow5.out, ⟨_, _, rfl⟩, Z5.out, B5.out⟩
      · have hri := (look_mem hr).2
        have HT2 : Hid (hisUp xs id r.pId (il ++ [p.pId]) ∧ lookP xs r.pId = some r) := Lib.hid ⟨by rw [hri]; exact HU2.out, by rw [hri]; exact hr⟩
        have HM2 : Hid (r.pId.toNat < p.pAfter.toNat + 1) := Lib.hid (by rw [hri]; omega)
        have CW := Lib.hid (implWithYes xs _ p.pAfter r w3 B (HL.out.below (hbl3.mono hB)) (Nat.le_trans hB hbl3.size) hl hr)
        clear hr hri
        refine CW.out.mono ?_
        rintro e w4 ⟨rfl, hb4⟩
        have hbl4 := hbl3.trans (hb4.mono hbl3.size)
        have bx4 := bx3.below hb4
        have hrow4 := row_below hrow3 hb4
        have z4 := hb4.size
        have f0 : w4.cell? ⟨w2.heap.size, 0, none⟩ = some (.int .i64 p.pId) := bx4.2 0 _ rfl
        have f1 : w4.cell? ⟨w2.heap.size, 1, none⟩ = some (.int .i64 p.pStation) := bx4.2 1 _ rfl
        have f2 : w4.cell? ⟨w2.heap.size, 2, none⟩ = some (.int .i64 p.pWave) := bx4.2 2 _ rfl
        have f3 : w4.cell? ⟨w2.heap.size, 3, none⟩ = some (.int .i64 p.pTick) := bx4.2 3 _ rfl
        have f4 : w4.cell? ⟨w2.heap.size, 4, none⟩ = some (.int .i64 p.pError) := bx4.2 4 _ rfl
        have f5 : w4.cell? ⟨w2.heap.size, 5, none⟩ = some (.int .i64 p.pBy) := bx4.2 5 _ rfl
        have f6 : w4.cell? ⟨w2.heap.size, 6, none⟩ = some (.int .i64 p.pAfter) := bx4.2 6 _ rfl
        have ff := bx4.1.2
        have bx5 := Lib.hid (bx4.puts (ds := encPick r) rfl)
        have hrow5 := Lib.hid (row_keep hrow4 (w' := putCells w4 w2.heap.size 0 (encPick r) 0) (fun b hb => putCells_heap _ _ _ _ _ _ (by omega)))
        have B5 := Lib.hid (below_putCells hbl4 (b := w2.heap.size) z2 0 (encPick r) 0)
        have Z5 : Hid (w2.heap.size + 1 < (putCells w4 w2.heap.size 0 (encPick r) 0).heap.size) := Lib.hid (by rw [putCells_size]; omega)
        clear bx4 hrow4 hrow3 bx3
        go_wp2
        go_roundg (p.pAfter.toNat + 1)
        case measure => omega
        case rel =>
          change ∃ (fb : Bool) (p : GPick) (q : Nat) (v : Value) (il : List Int), _ ∧ _ ∧ q ≤ 9999 ∧ Bx (putCells w4 w2.heap.size 0 (encPick r) 0) w2.heap.size (encPick p) ∧ _
          exact ⟨true, r, q + 1, _, _, rfl, rfl, hq8, bx5.out, fun _ => HM2.out, Lib.hid (fun _ => HT2.out), Lib.hid (fun h => by cases h), hrow5.out, ⟨_, _, rfl⟩, Z5.out, B5.out⟩
end Go.Proofs.Ytoimoaeaejbfdaa
