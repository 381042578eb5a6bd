/- Location by boxes: the specification's location. -/
import Derived.Test.YtoogofceoinniaaLoG
import Derived.Test.YtoogofceoinniaaQTail
import Derived.Deep.RegionHeld3
import Derived.Deep.CutBlock
import Derived.Deep.CutRange
namespace Go.Proofs.Ytoogofceoinniaa
open Go.ChangeShapes Go.WideShapes Go.ChangeAt Go.RowKit Go.ChangeMaps Go.Sort
set_option linter.unusedSimpArgs false
set_option linter.unusedVariables false
set_option linter.unusedSimpArgs false
set_option linter.unusedVariables false

theorem flat_takeK {α : Type} {en : α → List Value} {K : Nat} (hK : ∀ x, (en x).length = K) : ∀ (l : List α) (k : Nat), ((l.flatMap en).take (k * K)) = (l.take k).flatMap en
  | [], k => by simp
  | a :: l, 0 => by simp
  | a :: l, k + 1 => by
    rw [List.flatMap_cons, List.take_succ_cons, List.flatMap_cons, Nat.add_mul, Nat.one_mul, Nat.add_comm, List.take_append, hK, Nat.add_sub_cancel_left, List.take_of_length_le (by rw [hK]; omega), flat_takeK hK l k]
theorem flat_dropK {α : Type} {en : α → List Value} {K : Nat} (hK : ∀ x, (en x).length = K) : ∀ (l : List α) (k : Nat), ((l.flatMap en).drop (k * K)) = (l.drop k).flatMap en
  | [], k => by simp
  | a :: l, 0 => by simp
  | a :: l, k + 1 => by
    rw [List.flatMap_cons, List.drop_succ_cons, Nat.add_mul, Nat.one_mul, Nat.add_comm, List.drop_append, hK, Nat.add_sub_cancel_left, List.drop_of_length_le (by rw [hK]; omega), List.nil_append, flat_dropK hK l k]
/-- What came, in order. -/
def SrC (src o : List GCube) : Prop := (o.Pairwise fun a b => befC a b = true) ∧ o.Perm src
theorem SrC.step {src o : List GCube} {p : Nat} {x : GCube} (h : SrC src o) (hp : p ≤ o.length) (h1 : p = 0 ∨ ∃ y, o[p - 1]? = some y ∧ befC y x = true) (h2 : ∀ y ∈ o.drop p, befC x y = true) : SrC (src ++ [x]) (o.take p ++ x :: o.drop p) := by
  refine ⟨ins_bef h.1 hp ?_ h2, ?_⟩
  · intro y hy
    rcases h1 with rfl | ⟨z, hz, hzx⟩
    · simp at hy
    · by_cases h0 : p = 0
      · subst h0; simp at hy
      · exact bef_take h.1 hz hzx y (by rw [show p - 1 + 1 = p by omega]; exact hy)
  · have h3 : (o.take p ++ x :: o.drop p).Perm (x :: (o.take p ++ o.drop p)) := List.perm_middle
    rw [List.take_append_drop] at h3
    exact h3.trans ((List.perm_append_singleton x o).symm.trans (h.2.append_right [x]))
theorem SrC.mem {src o : List GCube} (h : SrC src o) {y : GCube} {j : Nat} (hy : o[j]? = some y) : y ∈ src := h.2.subset (List.mem_of_getElem? hy)
theorem SrC.len {src o : List GCube} (h : SrC src o) : o.length = src.length := h.2.length_eq
/-- Two different ones of the cubes. -/
theorem full_ne {l : List GCube} (hn : l.Nodup) {b : GCube} {s : Int} (h : ∀ c ∈ l, cellIn b s c) {k : Nat} {x y : GCube} (hx : l[k]? = some x) (hy : y ∈ l.take k) (hb : befC x y = false) : befC y x = true := by
  have hne : y ≠ x := by
    rintro rfl
    obtain ⟨j, hj⟩ := List.mem_iff_getElem?.1 hy
    have hjk : j < k := by have := (List.getElem?_eq_some_iff.1 hj).1; rw [List.length_take] at this; omega
    rw [List.getElem?_take_of_lt hjk] at hj
    have := (List.getElem?_inj (i := j) (j := k) (by exact (List.getElem?_eq_some_iff.1 hj).1) hn).1 (by rw [hj, hx])
    omega
  rcases cell_ne (h y (List.mem_of_mem_take hy)) (h x (List.mem_of_getElem? hx)) hne with q | q
  · exact q
  · rw [q] at hb; cases hb
set_option maxRecDepth 100000 in
set_option maxHeartbeats 1000000 in
theorem specBef (a b : GCube) (u : Bool) (w : World) (hu : befC a b = u) :
    Calls Try.prog 66 #[aggCb a, aggCb b] w fun e w' => e = .returned (.bool u) ∧ Below w.heap.size w w' := by
  have N := Lib.hid ((below_cube (w := w) (Nat.le_refl _) (objCb a)).alloc (by first | omega | (simp; done) | (simp; omega)) (objCb b))
  have HU : Hid (decide (a.pWest < b.pWest ∨ a.pWest = b.pWest ∧ a.pSouth < b.pSouth) = u) := Lib.hid hu
  clear hu
  by_cases k1 : a.pWest < b.pWest
  case pos =>
    have HF : Hid (true = u) := Lib.hid (by rw [← HU.out]; exact (decide_eq_true (Or.inl k1)).symm)
    go_enter Try.func66, Try.ntmps66
    go_wp2
    go_ret
    exact ⟨ret_bool HF.out, N.out⟩
  by_cases k2 : a.pWest = b.pWest
  case neg =>
    have HF : Hid (false = u) := Lib.hid (by rw [← HU.out]; exact (decide_eq_false (by omega)).symm)
    have k3 : (a.pWest == b.pWest) = false := by simpa using k2
    go_enter Try.func66, Try.ntmps66
    go_wp2
    go_ret
    exact ⟨ret_bool HF.out, N.out⟩
  have k3 : (a.pWest == b.pWest) = true := by simpa using k2
  have HK := Lib.hid k2
  clear k2
  by_cases k4 : a.pSouth < b.pSouth
  case pos =>
    have HF : Hid (true = u) := Lib.hid (by rw [← HU.out]; exact (decide_eq_true (Or.inr ⟨HK.out, k4⟩)).symm)
    go_enter Try.func66, Try.ntmps66
    go_wp2
    go_ret
    exact ⟨ret_bool HF.out, N.out⟩
  case neg =>
    have HF : Hid (false = u) := Lib.hid (by rw [← HU.out]; exact (decide_eq_false (by have := HK.out; omega)).symm)
    go_enter Try.func66, Try.ntmps66
    go_wp2
    go_ret
    exact ⟨ret_bool HF.out, N.out⟩
set_option maxRecDepth 100000 in
set_option maxHeartbeats 2000000 in
theorem specAsk12 (xs : List GArrival) (v : Value) (b : GCube) (s : Int) (u : Bool) (w : World) (B : Nat) (h : ArrivalL w B v xs) (hB : B ≤ w.heap.size) (hn : xs.length ≤ 1048576) (hu : askLo xs b s = u) :
    Calls Try.prog 64 #[v, aggCb b, .int .i64 s] w fun e w' => e = .returned (.bool u) ∧ Below w.heap.size w w' := by
  have N := below_cube (w := w) (Nat.le_refl _) (objCb b)
  have bB := Bx.new w [.int .i64 b.pWest, .int .i64 b.pSouth, .int .i64 b.pSide, .int .i64 b.pFrom, .int .i64 b.pTo] 25
  have h0 := h.below (N.mono hB)
  unfold askLo at hu
  have CL := Lib.hid (fun u hu => specLst xs v u _ B h0 (Nat.le_trans hB N.size) hn hu)
  obtain ⟨ao, cap, rfl⟩ := h.form
  clear h h0
  cases h1 : lstB xs with
  | false =>
    have C1 := Lib.hid (CL.out false h1)
    rw [h1, Bool.false_and] at hu
    have HF := Lib.hid hu
    clear h1 hu CL
    go_enter Try.func64, Try.ntmps64
    go_wp2_with fail
    refine C1.out.mono ?_
    rintro e w1 ⟨rfl, hb⟩
    go_wp2
    go_ret
    exact ⟨ret_bool HF.out, N.trans (hb.mono N.size)⟩
  | true =>
  have C1 := Lib.hid (CL.out true h1)
  rw [h1, Bool.true_and] at hu
  cases h2 : goodCb b with
  | false =>
    have C2 := Lib.hid (fun W => specGoodCb b false W h2)
    rw [h2, Bool.false_and] at hu
    have HF := Lib.hid hu
    clear h1 h2 hu CL
    go_enter Try.func64, Try.ntmps64
    go_wp2_with fail
    refine C1.out.mono ?_
    rintro e w1 ⟨rfl, hb⟩
    have N1 := N.trans (hb.mono N.size)
    have bB1 := bB.below hb
    have b0 := bB1.2 0 _ rfl
    have b1 := bB1.2 1 _ rfl
    have b2 := bB1.2 2 _ rfl
    have b3 := bB1.2 3 _ rfl
    have b4 := bB1.2 4 _ rfl
    clear hb bB1 bB N
    go_wp2_with fail
    refine (C2.out _).mono ?_
    rintro e w2 ⟨rfl, hb⟩
    go_wp2
    go_ret
    exact ⟨ret_bool HF.out, N1.trans (hb.mono N1.size)⟩
  | true =>
  have C2 := Lib.hid (fun W => specGoodCb b true W h2)
  rw [h2, Bool.true_and] at hu
  cases h3 : sideB s with
  | false =>
    have C3 := Lib.hid (fun W => specSide s false W h3)
    rw [h3, Bool.false_and] at hu
    have HF := Lib.hid hu
    clear h1 h2 h3 hu CL
    go_enter Try.func64, Try.ntmps64
    go_wp2_with fail
    refine C1.out.mono ?_
    rintro e w1 ⟨rfl, hb⟩
    have N1 := N.trans (hb.mono N.size)
    have bB1 := bB.below hb
    have b0 := bB1.2 0 _ rfl
    have b1 := bB1.2 1 _ rfl
    have b2 := bB1.2 2 _ rfl
    have b3 := bB1.2 3 _ rfl
    have b4 := bB1.2 4 _ rfl
    clear hb bB1 bB N
    go_wp2_with fail
    refine (C2.out _).mono ?_
    rintro e w2 ⟨rfl, hb⟩
    have N2 := N1.trans (hb.mono N1.size)
    clear b0 b1 b2 b3 b4 hb N1
    go_wp2_with fail
    refine (C3.out _).mono ?_
    rintro e w3 ⟨rfl, q3⟩
    subst q3
    go_wp2
    go_ret
    exact ⟨ret_bool HF.out, N2⟩
  | true =>
  have C3 := Lib.hid (fun W => specSide s true W h3)
  rw [h3, Bool.true_and] at hu
  have HF := Lib.hid hu
  clear h1 h2 h3 hu CL
  go_enter Try.func64, Try.ntmps64
  go_wp2_with fail
  refine C1.out.mono ?_
  rintro e w1 ⟨rfl, hb⟩
  have N1 := N.trans (hb.mono N.size)
  have bB1 := bB.below hb
  have b0 := bB1.2 0 _ rfl
  have b1 := bB1.2 1 _ rfl
  have b2 := bB1.2 2 _ rfl
  have b3 := bB1.2 3 _ rfl
  have b4 := bB1.2 4 _ rfl
  clear hb bB N
  go_wp2_with fail
  refine (C2.out _).mono ?_
  rintro e w2 ⟨rfl, hb⟩
  have N2 := N1.trans (hb.mono N1.size)
  have bB2 := bB1.below hb
  clear b0 b1 b2 b3 b4 hb N1 bB1
  have b2 := bB2.2 2 _ rfl
  go_wp2_with fail
  refine (C3.out _).mono ?_
  rintro e w3 ⟨rfl, q3⟩
  subst q3
  go_wp2
  go_ret
  exact ⟨ret_bool HF.out, N2⟩
theorem lo_no {xs : List GArrival} {b : GCube} {s : Int} (h : okLo xs b s = false) {w : World} {L B : Nat} {v : Value} (hown : CubeO w L B v []) : CubeO w L B v (resLo xs b s) := by rw [resLo_no h]; exact hown
set_option maxRecDepth 100000 in
set_option maxHeartbeats 16000000 in
theorem specLo (xs : List GArrival) (v : Value) (b : GCube) (v2 : Value) (s : Int) (w : World) (B : Nat) (h : ArrivalL w B v xs) (h2 : CubeVL w B v2 b) (hB : B ≤ w.heap.size) (hn : szsArrival xs ≤ 1048576) (_ : sz1Cube b ≤ 1048576) (hw : ∀ s ∈ xs, wfArrival s) (hw2 : wfCube b) (_ : I64 s) :
    Calls Try.prog 28 #[v, v2, .int .i64 s] w fun e w' => ∃ v', e = .returned (.tuple #[v', .bool (okLo xs b s)]) ∧ CubeO w' w.heap.size w'.heap.size v' (resLo xs b s) ∧ Below w.heap.size w w' := by
  obtain rfl := h2.form
  clear h2
  have hl := Nat.le_trans (szsArrival_len xs) hn
  obtain ⟨W0, hW0⟩ : ∃ W0, w.alloc (objCb b) = W0 := ⟨_, rfl⟩
  have N0 : Below w.heap.size w W0 := hW0 ▸ (Below.refl w.heap.size w).alloc (Nat.le_refl _) _
  have bB : Bx W0 w.heap.size [.int .i64 b.pWest, .int .i64 b.pSouth, .int .i64 b.pSide, .int .i64 b.pFrom, .int .i64 b.pTo] := hW0 ▸ Bx.new w [.int .i64 b.pWest, .int .i64 b.pSouth, .int .i64 b.pSide, .int .i64 b.pFrom, .int .i64 b.pTo] 25
  have z0 := N0.size
  obtain ⟨W1, hW1⟩ : ∃ W1, W0.alloc (.cells #[] 25) = W1 := ⟨_, rfl⟩
  have A1 : Below W0.heap.size W0 W1 := hW1 ▸ (Below.refl _ _).alloc (Nat.le_refl _) _
  have hrow1 : W1.ownsRow w.heap.size 25 5 (.slice (some ⟨W0.heap.size, 0, none⟩) 0 0) 0 [] := hW1 ▸ rowK_empty W0 (base := w.heap.size) 25 5 z0
  have bB1 := bB.below A1
  have N1 := N0.trans (A1.mono z0)
  have z1 := N1.size
  have b0 := bB1.2 0 _ rfl
  have b1 := bB1.2 1 _ rfl
  have b2 := bB1.2 2 _ rfl
  have b3 := bB1.2 3 _ rfl
  have b4 := bB1.2 4 _ rfl
  have h1 := h.below (N1.mono hB)
  have CA := Lib.hid (fun u hu => specAsk12 xs v b s u W1 B h1 (Nat.le_trans hB z1) hl hu)
  have HL := Lib.hid (fun W (q : Below w.heap.size w W) => h.below (q.mono hB))
  obtain ⟨ao, cap, rfl⟩ := h.form
  clear h h1 bB A1
  cases hk : askLo xs b s with
  | false =>
    have C1 := Lib.hid (CA.out false hk)
    have e := okLo_ask hk
    rw [e, resLo_no e]
    clear hk e CA
    go_enter Try.func28, Try.ntmps28
    go_wp2_with fail
    refine C1.out.mono ?_
    rintro e w2 ⟨rfl, hb⟩
    have hr2 := row_below hrow1 hb
    have N2 := N1.trans (hb.mono z1)
    clear b0 b1 b2 b3 b4
    go_wp2
    go_ret2
    exact ⟨_, rfl, OwnK.of_row encCube_len (by omega) (xs := ([] : List GCube)) hr2, N2⟩
  | true =>
  have C1 := Lib.hid (CA.out true hk)
  generalize hok0 : okLo xs b s = ok0
  generalize hres0 : resLo xs b s = res0
  have HO0 := Lib.hid hok0
  have HR0 := Lib.hid hres0
  clear hok0 hres0
  obtain ⟨g1, g2, g3, g4⟩ := askLo_yes hk
  have CALL := Lib.hid (fun W (q : Below w.heap.size w W) => specAll xs s (lstB_yes g1).1 g3 (expC b s) b (.slice ao xs.length cap) W B g2 (expC_eq hk) (HL.out W q) (Nat.le_trans hB q.size))
  have HFN := Lib.hid (fullV_nodup hk)
  have HFI := Lib.hid (fun c hc => ((fullV_mem hk c).1 hc).1)
  have HK := Lib.hid hk
  have HFV : Hid (allV xs (expC b s) b = fullV xs b s) := Lib.hid rfl
  obtain ⟨ti, hti, hz0, hz1, hz2⟩ := info_parts info_Cube
  clear hk g1 g2 g3 g4 CA hw hw2
  go_enter Try.func28, Try.ntmps28
  go_wp2_with fail
  refine C1.out.mono ?_
  rintro e w2 ⟨rfl, hb⟩
  have hr2 := row_below hrow1 hb
  have bB2 := bB1.below hb
  have N2 := N1.trans (hb.mono z1)
  clear b0 b1 b2 b3 b4 hb hrow1 bB1
  have b0 := bB2.2 0 _ rfl
  have b1 := bB2.2 1 _ rfl
  have b2 := bB2.2 2 _ rfl
  have b3 := bB2.2 3 _ rfl
  have b4 := bB2.2 4 _ rfl
  go_wp2_with fail
  refine (CALL.out _ N2).mono ?_
  rintro e w3 ⟨v3, rfl, r, hcut, hown, hb3⟩
  rw [HFV.out] at hcut
  have hr3 := row_below hr2 hb3
  have N3 := N2.trans (hb3.mono N2.size)
  clear b0 b1 b2 b3 b4 hb3 hr2 bB2
  by_cases h64 : r.length ≤ 64
  case neg =>
    have e := okLo_cut hcut (by omega)
    obtain rfl : ok0 = false := by rw [← HO0.out]; exact e
    obtain rfl : res0 = [] := by rw [← HR0.out]; exact resLo_no e
    obtain ⟨ao3, cap3, rfl⟩ := hown.form
    have h65 : (64 : Int) < (r.length : Int) := by omega
    clear hcut e
    go_wp2
    go_ret2
    exact ⟨_, rfl, OwnK.of_row encCube_len (by omega) (xs := ([] : List GCube)) hr3, N3⟩
  have hr9 : r = fullV xs b s := by
    rcases hcut.2 with e | e
    · exact e
    · omega
  have HFR := Lib.hid hr9
  have hnd := HFN.out
  have hin := HFI.out
  rw [← hr9] at hnd hin
  have HND := Lib.hid hnd
  have HIN := Lib.hid hin
  obtain rfl : ok0 = true := by rw [← HO0.out]; exact okLo_few HK.out (by rw [← hr9]; exact h64)
  have HRES : Hid (∀ o, SrC r o → o = res0) := Lib.hid (fun o ho => by rw [← HR0.out]; exact (resLo_one HK.out hcut h64 ho.2 ho.1).2)
  obtain ⟨ra, rcap, rfl, hrc1, hrc2, -, hrc⟩ := hown.lst
  unfold maxLen at hrc2
  have HC := Lib.hid hrc
  have h65 : ¬ (64 : Int) < (r.length : Int) := by omega
  have z3 := N3.size
  clear hnd hin hrc hown hr9 hcut
  go_wp2
  go_loopw [8, 10, 11] (fun ov i _ wr => ∃ (k g oc : Nat) (o : List GCube), k ≤ r.length ∧ i = .int .i64 k ∧ ov = .slice (some ⟨g, 0, none⟩) k oc ∧ k ≤ oc ∧ oc ≤ 9223372036854775807 ∧ Hid (SrC (r.take k) o) ∧ Hid (o.length = k) ∧ wr.ownsRow w.heap.size 25 5 (.slice (some ⟨g, 0, none⟩) k oc) k (o.flatMap encCube) ∧ Below w3.heap.size w3 wr) (fun _ i _ _ => r.length - (intOf i).toNat)
  case atStart => exact ⟨0, _, 0, [], Nat.zero_le _, rfl, rfl, Nat.le_refl _, by omega, Lib.hid ⟨List.Pairwise.nil, by simp⟩, Lib.hid rfl, hr3, Below.refl _ _⟩
  case round =>
    obtain ⟨k, g, oc, o, hk, rfl, rfl, hco, hoc, HS, HOL, hrow, hbl⟩ := hrel
    have hsz := hbl.size
    by_cases hlt : k < r.length
    case neg =>
      obtain rfl : k = r.length := by omega
      have HE := Lib.hid (HRES.out o (by have := HS.out; rwa [List.take_length] at this))
      have N4 := N3.trans (hbl.mono z3)
      go_wp2
      go_ret2
      exact ⟨_, rfl, by rw [← HE.out]; exact OwnK.of_row encCube_len (by omega) hrow, N4⟩
    obtain ⟨x, hx⟩ := get_of_lt hlt
    obtain ⟨b9, off, rfl, hbb, hcell⟩ := HC.out k x hx
    have c0 : wr.cell? ⟨b9, off + k * 5, none⟩ = some (.int .i64 x.pWest) := cellOf hbl (by omega) (hcell 0 _ rfl)
    have c1 : wr.cell? ⟨b9, off + k * 5 + 1, none⟩ = some (.int .i64 x.pSouth) := cellOf hbl (by omega) (hcell 1 _ rfl)
    have c2 : wr.cell? ⟨b9, off + k * 5 + 2, none⟩ = some (.int .i64 x.pSide) := cellOf hbl (by omega) (hcell 2 _ rfl)
    have c3 : wr.cell? ⟨b9, off + k * 5 + 3, none⟩ = some (.int .i64 x.pFrom) := cellOf hbl (by omega) (hcell 3 _ rfl)
    have c4 : wr.cell? ⟨b9, off + k * 5 + 4, none⟩ = some (.int .i64 x.pTo) := cellOf hbl (by omega) (hcell 4 _ rfl)
    have hi0 : (0 : Int) ≤ (k : Int) := by omega
    have hi1 : (k : Int) < (r.length : Int) := by omega
    have hi2 : (r.length : Int) ≤ 64 := by omega
    have hlt' : k < r.length := hlt
    have HX := Lib.hid hx
    have HTK := Lib.hid (take_snoc hx)
    have HNE := Lib.hid (fun y (hy : y ∈ r.take k) (hb : befC x y = false) => full_ne HND.out HIN.out hx hy hb)
    have CB := Lib.hid (fun y u W hu => specBef x y u W hu)
    clear hcell hx
    obtain ⟨wk, rfl⟩ : ∃ wk : World, wk = wr := ⟨_, rfl⟩
    go_upto_block 2 with fail
    go_cut [11] from 35 to 50 (fun q wx => ∃ m : Nat, m ≤ k ∧ q = .int .i64 m ∧ Hid (∀ y ∈ o.drop m, befC x y = true) ∧ Hid (m = 0 ∨ ∃ y, o[m - 1]? = some y ∧ befC y x = true) ∧ Below wk.heap.size wk wx)
    case first =>
      go_wp2
      go_loopw [11] (fun q wx => ∃ m : Nat, m ≤ k ∧ q = .int .i64 m ∧ Hid (∀ y ∈ o.drop m, befC x y = true) ∧ Below wk.heap.size wk wx) (fun q _ => (intOf q).toNat)
      case atStart => exact ⟨k, Nat.le_refl _, rfl, Lib.hid (by rw [List.drop_of_length_le (by rw [HOL.out]; exact Nat.le_refl _)]; simp), Below.refl _ _⟩
      case round =>
        obtain ⟨m, hm, rfl, HD, hbi⟩ := hrel
        have hszi := hbi.size
        have d0 := cellOf hbi (cell_of_lt c0) c0
        have d1 := cellOf hbi (cell_of_lt c1) c1
        have d2 := cellOf hbi (cell_of_lt c2) c2
        have d3 := cellOf hbi (cell_of_lt c3) c3
        have d4 := cellOf hbi (cell_of_lt c4) c4
        have rd0 := cell_regrown d0
        have rd1 := cell_regrown d1
        have rd2 := cell_regrown d2
        have rd3 := cell_regrown d3
        have rd4 := cell_regrown d4
        by_cases hm0 : m = 0
        case pos =>
          have HQ : Hid (m = 0 ∨ ∃ y, o[m - 1]? = some y ∧ befC y x = true) := Lib.hid (Or.inl hm0)
          have g1 : ¬ (0 : Int) < (m : Int) := by omega
          have g2 : decide ((0 : Int) < (m : Int)) = false := decide_eq_false g1
          have g3 : decide (0 < m) = false := by simpa using hm0
          have g4 : ¬ 0 < m := by omega
          have HM0 := Lib.hid hm0
          clear hm0
          go_wp2
          refine wp_region_quiet_below (by kernel_rfl) (by kernel_rfl) ?_
          repeat (go_big_quiet_step (fail))
          refine wpQuiet_nil ?_
          intro _ hw'
          obtain ⟨⟨dq, osq⟩, hw''⟩ := hw'
          subst hw''
          have hb4 := below_regrown (wr) dq osq
          generalize grow (redrawn (wr) dq) osq = w4 at *
          go_wp2
          go_meet
          exact ⟨m, hm, rfl, HD, HQ, hbi.trans (hb4.mono hszi)⟩
        have m1 : 1 ≤ m := by omega
        clear hm0
        obtain ⟨y, hy⟩ := get_of_lt (l := o) (k := m - 1) (by rw [HOL.out]; omega)
        have hym := HS.out.mem hy
        obtain ⟨-, -, -, tc, -⟩ := OwnK.at (OwnK.of_row encCube_len (by omega) (row_below hrow hbi)) hy
        have t0 : wr.cell? ⟨g, (m - 1) * 5, none⟩ = some (.int .i64 y.pWest) := by have := tc 0 _ rfl; simpa using this
        have t1 : wr.cell? ⟨g, (m - 1) * 5 + 1, none⟩ = some (.int .i64 y.pSouth) := by have := tc 1 _ rfl; simpa using this
        have t2 : wr.cell? ⟨g, (m - 1) * 5 + 2, none⟩ = some (.int .i64 y.pSide) := by have := tc 2 _ rfl; simpa using this
        have t3 : wr.cell? ⟨g, (m - 1) * 5 + 3, none⟩ = some (.int .i64 y.pFrom) := by have := tc 3 _ rfl; simpa using this
        have t4 : wr.cell? ⟨g, (m - 1) * 5 + 4, none⟩ = some (.int .i64 y.pTo) := by have := tc 4 _ rfl; simpa using this
        have rt0 := cell_regrown t0
        have rt1 := cell_regrown t1
        have rt2 := cell_regrown t2
        have rt3 := cell_regrown t3
        have rt4 := cell_regrown t4
        have mp0 : (0 : Int) < (m : Int) := by omega
        have mp1 : 0 < m := by omega
        have mp2 : (0 : Int) ≤ (m : Int) - 1 := by omega
        have mp3 : (m : Int) - 1 < (k : Int) := by omega
        have mp4 : ((m : Int) - 1).toNat = m - 1 := by omega
        have mp5 : IntKind.i64.wrap ((m : Int) - 1) = (m : Int) - 1 := IntWalk.i64_in _ (by omega)
        have mp6 : (m : Int) ≤ 64 := by omega
        have HY := Lib.hid hy
        cases hxy : befC x y with
        | true =>
          have HD2 : Hid (∀ y ∈ o.drop (m - 1), befC x y = true) := Lib.hid (bef_drop HS.out.1 hy hxy)
          have C9 := Lib.hid (fun W => CB.out y true W hxy)
          have cs := fun d os => Calls.regrown_of (w := wr) (d := d) (os := os) (C9.out _)
          clear hy tc hym hxy
          go_wp2
          refine wp_region_quiet_below (by kernel_rfl) (by kernel_rfl) ?_
          repeat (go_big_quiet_step (first | with_reducible exact cs _ _))
          refine wpQuiet_nil ?_
          intro _ hw'
          obtain ⟨⟨dq, osq⟩, hw''⟩ := hw'
          subst hw''
          have hb4 := below_regrown (wr) dq osq
          generalize grow (redrawn (wr) dq) osq = w4 at *
          clear cs
          go_wp2
          go_roundw
          case rel => exact ⟨m - 1, by omega, by go_num, HD2, hbi.trans (hb4.mono hszi)⟩
          case measure => first | (simp [intOf]; done) | (simp [intOf]; omega) | (unfold intOf; omega)
        | false =>
          have HQ : Hid (m = 0 ∨ ∃ y, o[m - 1]? = some y ∧ befC y x = true) := Lib.hid (Or.inr ⟨y, hy, HNE.out y hym hxy⟩)
          have C9 := Lib.hid (fun W => CB.out y false W hxy)
          have cs := fun d os => Calls.regrown_of (w := wr) (d := d) (os := os) (C9.out _)
          clear hy tc hym hxy
          go_wp2
          refine wp_region_quiet_below (by kernel_rfl) (by kernel_rfl) ?_
          repeat (go_big_quiet_step (first | with_reducible exact cs _ _))
          refine wpQuiet_nil ?_
          intro _ hw'
          obtain ⟨⟨dq, osq⟩, hw''⟩ := hw'
          subst hw''
          have hb4 := below_regrown (wr) dq osq
          generalize grow (redrawn (wr) dq) osq = w4 at *
          clear cs
          go_wp2
          go_meet
          exact ⟨m, hm, rfl, HD, HQ, hbi.trans (hb4.mono hszi)⟩
    case rest =>
      obtain ⟨m, hm, rfl, HD, HQ, hbx⟩ := hcut
      rename World => W3
      have HS2 : Hid (SrC (r.take (k + 1)) (o.take m ++ x :: o.drop m)) := Lib.hid (by rw [HTK.out]; exact HS.out.step (by rw [HOL.out]; exact hm) HQ.out HD.out)
      have hrow3 := row_below hrow hbx
      have hblW := hbl.trans (hbx.mono hsz)
      have e0 := cellOf hbx (cell_of_lt c0) c0
      have e1 := cellOf hbx (cell_of_lt c1) c1
      have e2 := cellOf hbx (cell_of_lt c2) c2
      have e3 := cellOf hbx (cell_of_lt c3) c3
      have e4 := cellOf hbx (cell_of_lt c4) c4
      have zW := Nat.le_trans z3 hblW.size
      have zW3 := hblW.size
      clear HD HQ HTK hrow hbx c0 c1 c2 c3 c4 HNE CB
      have kp0 : (0 : Int) ≤ (m : Int) := by omega
      have kp1 : (m : Int) ≤ (k : Int) := by omega
      have kp2 : (m : Int) ≤ (oc : Int) := by omega
      have kp3 : m ≤ oc := by omega
      by_cases hcm : m = oc
      case pos =>
        have hcc : k = m := by omega
        subst hcc
        subst hcm
        have hd9 : o.drop k = [] := List.drop_of_length_le (by rw [HOL.out]; omega)
        have KA : Below W3.heap.size W3 (W3.alloc (.cells #[] 25)).drew := ((Below.refl _ _).alloc (Nat.le_refl _) _).drew
        have KA1 : Below W3.heap.size W3 ((W3.alloc (.cells #[] 25)).alloc (.cells #[.int .i64 x.pWest, .int .i64 x.pSouth, .int .i64 x.pSide, .int .i64 x.pFrom, .int .i64 x.pTo] 25)).drew := (((Below.refl _ _).alloc (Nat.le_refl _) _).alloc (by first | omega | (simp; done) | (simp; omega)) _).drew
        have KB : Below W3.heap.size W3 (W3.alloc (.cells #[.int .i64 x.pWest, .int .i64 x.pSouth, .int .i64 x.pSide, .int .i64 x.pFrom, .int .i64 x.pTo] 25)).drew := ((Below.refl _ _).alloc (Nat.le_refl _) _).drew
        have KB0 : Below W3.heap.size W3 ((W3.alloc (.cells #[.int .i64 x.pWest, .int .i64 x.pSouth, .int .i64 x.pSide, .int .i64 x.pFrom, .int .i64 x.pTo] 25)).alloc (.cells #[] 25)).drew := (((Below.refl _ _).alloc (Nat.le_refl _) _).alloc (by first | omega | (simp; done) | (simp; omega)) _).drew
        have rA : (W3.alloc (.cells #[] 25)).drew.ownsRow W3.heap.size 25 5 (.slice (some ⟨W3.heap.size, 0, none⟩) 0 0) 0 [] := rowK_empty W3 _ _ (Nat.le_refl _)
        have rA1 : ((W3.alloc (.cells #[] 25)).alloc (.cells #[.int .i64 x.pWest, .int .i64 x.pSouth, .int .i64 x.pSide, .int .i64 x.pFrom, .int .i64 x.pTo] 25)).drew.ownsRow W3.heap.size 25 5 (.slice (some ⟨W3.heap.size, 0, none⟩) 0 0) 0 [] := (rowK_empty W3 _ _ (Nat.le_refl _)).alloc _
        have rB0 : ((W3.alloc (.cells #[.int .i64 x.pWest, .int .i64 x.pSouth, .int .i64 x.pSide, .int .i64 x.pFrom, .int .i64 x.pTo] 25)).alloc (.cells #[] 25)).drew.ownsRow W3.heap.size 25 5 (.slice (some ⟨W3.heap.size + 1, 0, none⟩) 0 0) 0 [] := by
          have h9 : ((W3.alloc (.cells #[.int .i64 x.pWest, .int .i64 x.pSouth, .int .i64 x.pSide, .int .i64 x.pFrom, .int .i64 x.pTo] 25)).alloc (.cells #[] 25)).ownsRow W3.heap.size 25 5 (.slice (some ⟨W3.heap.size + 1, 0, none⟩) 0 0) 0 [] := by
            have := rowK_empty (W3.alloc (.cells #[.int .i64 x.pWest, .int .i64 x.pSouth, .int .i64 x.pSide, .int .i64 x.pFrom, .int .i64 x.pTo] 25)) (base := W3.heap.size) 25 5 (by first | omega | (simp; done) | (simp; omega))
            simpa using this
          exact h9
        have bA1 : Bx ((W3.alloc (.cells #[] 25)).alloc (.cells #[.int .i64 x.pWest, .int .i64 x.pSouth, .int .i64 x.pSide, .int .i64 x.pFrom, .int .i64 x.pTo] 25)).drew (W3.heap.size + 1) (encCube x) := Bx.new1 W3 (.cells #[] 25) (encCube x) 25
        have bB0 : Bx ((W3.alloc (.cells #[.int .i64 x.pWest, .int .i64 x.pSouth, .int .i64 x.pSide, .int .i64 x.pFrom, .int .i64 x.pTo] 25)).alloc (.cells #[] 25)).drew W3.heap.size (encCube x) := (Bx.new W3 (encCube x) 25).alloc _
        have Q1 : Hid (SrcK W3 5 (.slice (some ⟨g, 0, none⟩) k k) k ((o.take k).flatMap encCube)) := Lib.hid (by
          have := row_part hrow3 (oneCube o) 0 k k (Nat.zero_le _) (by omega)
          simpa [flat_takeK encCube_len] using this)
        have Q2 : Hid (SrcK W3 5 (.slice (some ⟨g, 0, none⟩) 0 0) 0 []) := Lib.hid (srcK_nil _ _ _ _)
        have ONE : Hid (∀ u ∈ encCube x, u.oneCell' = true) := Lib.hid (by intro u hu; exact oneCube [x] u (by simpa using hu))
        have HS0 : Hid (∀ w', Below W3.heap.size W3 w' → Below W3.heap.size W3 w' ∧ w'.cell? ⟨b9, off + k * 5, none⟩ = some (.int .i64 x.pWest) ∧ w'.cell? ⟨b9, off + k * 5 + 1, none⟩ = some (.int .i64 x.pSouth) ∧ w'.cell? ⟨b9, off + k * 5 + 2, none⟩ = some (.int .i64 x.pSide) ∧ w'.cell? ⟨b9, off + k * 5 + 3, none⟩ = some (.int .i64 x.pFrom) ∧ w'.cell? ⟨b9, off + k * 5 + 4, none⟩ = some (.int .i64 x.pTo)) := Lib.hid (fun w' q => ⟨q, cellOf q (cell_of_lt e0) e0, cellOf q (cell_of_lt e1) e1, cellOf q (cell_of_lt e2) e2, cellOf q (cell_of_lt e3) e3, cellOf q (cell_of_lt e4) e4⟩)
        have HSD : Hid (Below W3.heap.size W3 W3.drew) := Lib.hid (Below.refl _ _).drew
        go_wp2
        go_region_held3 (fun w' => Below W3.heap.size W3 w' ∧ w'.cell? ⟨b9, off + k * 5, none⟩ = some (.int .i64 x.pWest) ∧ w'.cell? ⟨b9, off + k * 5 + 1, none⟩ = some (.int .i64 x.pSouth) ∧ w'.cell? ⟨b9, off + k * 5 + 2, none⟩ = some (.int .i64 x.pSide) ∧ w'.cell? ⟨b9, off + k * 5 + 3, none⟩ = some (.int .i64 x.pFrom) ∧ w'.cell? ⟨b9, off + k * 5 + 4, none⟩ = some (.int .i64 x.pTo))
          (first
            | exact HS0.out _ HSD.out
            | exact HS0.out _ (by with_reducible assumption))
          (first
            | (refine step_append_srcK (((W3.alloc (.cells #[] 25)).alloc (.cells #[.int .i64 x.pWest, .int .i64 x.pSouth, .int .i64 x.pSide, .int .i64 x.pFrom, .int .i64 x.pTo] 25)).drew) (by first | rfl | kernel_rfl) _ _ _ (by rfl) W3.heap.size 25 ti (.agg #[.int .i64 0, .int .i64 0, .int .i64 0, .int .i64 0, .int .i64 0]) 5 40 Try.underlying39 hti hz0 hz1 hz2 rfl (by decide) _ (0) ([]) (by rfl) (rA1) _ (k) _ (by rfl) (Q1.out.below KA1) (by unfold maxLen; omega) (by omega) (by first | omega | (simp; done) | (simp; omega)) ?_; intro v5 w5 hr5 hg5 hat5; have B5 : Below W3.heap.size W3 w5 := Below.grown KA1 hg5 (by first | omega | (simp; done) | (simp; omega)) (by intro q hq; cases hq; simp); have r5 : w5.ownsRow W3.heap.size 25 5 v5 k ((o.take k).flatMap encCube) := (by simpa using hr5); have z5 := B5.size; have b5 := bA1.grown (row := some W3.heap.size) hg5 (by simp); clear hr5 hg5 hat5)
            | (refine step_append_srcK (((W3.alloc (.cells #[.int .i64 x.pWest, .int .i64 x.pSouth, .int .i64 x.pSide, .int .i64 x.pFrom, .int .i64 x.pTo] 25)).alloc (.cells #[] 25)).drew) (by first | rfl | kernel_rfl) _ _ _ (by rfl) W3.heap.size 25 ti (.agg #[.int .i64 0, .int .i64 0, .int .i64 0, .int .i64 0, .int .i64 0]) 5 40 Try.underlying39 hti hz0 hz1 hz2 rfl (by decide) _ (0) ([]) (by rfl) (rB0) _ (k) _ (by rfl) (Q1.out.below KB0) (by unfold maxLen; omega) (by omega) (by first | omega | (simp; done) | (simp; omega)) ?_; intro v5 w5 hr5 hg5 hat5; have B5 : Below W3.heap.size W3 w5 := Below.grown KB0 hg5 (by first | omega | (simp; done) | (simp; omega)) (by intro q hq; cases hq; simp); have r5 : w5.ownsRow W3.heap.size 25 5 v5 k ((o.take k).flatMap encCube) := (by simpa using hr5); have z5 := B5.size; have b5 := bB0.grown (row := some (W3.heap.size + 1)) hg5 (by simp); clear hr5 hg5 hat5)
            | (refine step_append_srcK ((W3.alloc (.cells #[] 25)).drew) (by first | rfl | kernel_rfl) _ _ _ (by rfl) W3.heap.size 25 ti (.agg #[.int .i64 0, .int .i64 0, .int .i64 0, .int .i64 0, .int .i64 0]) 5 40 Try.underlying39 hti hz0 hz1 hz2 rfl (by decide) _ (0) ([]) (by rfl) (rA) _ (k) _ (by rfl) (Q1.out.below KA) (by unfold maxLen; omega) (by omega) (by first | omega | (simp; done) | (simp; omega)) ?_; intro v5 w5 hr5 hg5 hat5; have B5 : Below W3.heap.size W3 w5 := Below.grown KA hg5 (by first | omega | (simp; done) | (simp; omega)) (by intro q hq; cases hq; simp); have r5 : w5.ownsRow W3.heap.size 25 5 v5 k ((o.take k).flatMap encCube) := (by simpa using hr5); have z5 := B5.size; have K5 : Below W3.heap.size W3 (w5.alloc (.cells #[.int .i64 x.pWest, .int .i64 x.pSouth, .int .i64 x.pSide, .int .i64 x.pFrom, .int .i64 x.pTo] 25)) := B5.alloc B5.size _; have b5V : Bx (w5.alloc (.cells #[.int .i64 x.pWest, .int .i64 x.pSouth, .int .i64 x.pSide, .int .i64 x.pFrom, .int .i64 x.pTo] 25)) w5.heap.size (encCube x) := Bx.new w5 (encCube x) 25; clear hr5 hg5 hat5)
            | (refine step_append_srcK (w5) (by first | rfl | kernel_rfl) _ _ _ (by rfl) W3.heap.size 25 ti (.agg #[.int .i64 0, .int .i64 0, .int .i64 0, .int .i64 0, .int .i64 0]) 5 40 Try.underlying39 hti hz0 hz1 hz2 rfl (by decide) _ (k) ((o.take k).flatMap encCube) (by rfl) (r5) _ (1) _ (by rfl) (srcK_box b5 ONE.out) (by unfold maxLen; omega) (by omega) (z5) ?_; intro v6 w6 hr6 hg6 hat6; have B6 : Below W3.heap.size W3 w6 := Below.grown B5 hg6 (by first | omega | (simp; done) | (simp; omega)) (fun q hq => (r5.lt q hq).1); have r6 : w6.ownsRow W3.heap.size 25 5 v6 (k + 1) ((o.take k).flatMap encCube ++ encCube x) := (by simpa using hr6); have z6 := B6.size; clear hr6 hg6 hat6)
            | (refine step_append_srcK (w5.alloc (.cells #[.int .i64 x.pWest, .int .i64 x.pSouth, .int .i64 x.pSide, .int .i64 x.pFrom, .int .i64 x.pTo] 25)) (by first | rfl | kernel_rfl) _ _ _ (by rfl) W3.heap.size 25 ti (.agg #[.int .i64 0, .int .i64 0, .int .i64 0, .int .i64 0, .int .i64 0]) 5 40 Try.underlying39 hti hz0 hz1 hz2 rfl (by decide) _ (k) ((o.take k).flatMap encCube) (by rfl) (r5.alloc _) _ (1) _ (by rfl) (srcK_box b5V ONE.out) (by unfold maxLen; omega) (by omega) (by first | omega | (simp; done) | (simp; omega)) ?_; intro v6 w6 hr6 hg6 hat6; have B6 : Below W3.heap.size W3 w6 := Below.grown K5 hg6 (by first | omega | (simp; done) | (simp; omega)) (fun q hq => (r5.lt q hq).1); have r6 : w6.ownsRow W3.heap.size 25 5 v6 (k + 1) ((o.take k).flatMap encCube ++ encCube x) := (by simpa using hr6); have z6 := B6.size; clear hr6 hg6 hat6)
            | (refine step_append_srcK (w6) (by first | rfl | kernel_rfl) _ _ _ (by rfl) W3.heap.size 25 ti (.agg #[.int .i64 0, .int .i64 0, .int .i64 0, .int .i64 0, .int .i64 0]) 5 40 Try.underlying39 hti hz0 hz1 hz2 rfl (by decide) _ (k + 1) ((o.take k).flatMap encCube ++ encCube x) (by rfl) (r6) _ (0) _ (by rfl) (Q2.out.below B6) (by unfold maxLen; omega) (by omega) (z6) ?_; intro v7 w7 hr7 hg7 hat7; have B7 : Below W3.heap.size W3 w7 := Below.grown B6 hg7 (by first | omega | (simp; done) | (simp; omega)) (fun q hq => (r6.lt q hq).1); have r7 : w7.ownsRow W3.heap.size 25 5 v7 (k + 1 + (0)) ((o.take k).flatMap encCube ++ encCube x ++ []) := (by simpa using hr7); have z7 := B7.size; clear hr7 hg7 hat7))
        all_goals
          have h71 : k + 1 + (0) = k + 1 := by omega
          rw [h71] at r7
          obtain ⟨g7, cap7, rfl, hc7, hm7, hL7, -⟩ := row_some r7 (by omega)
          have r8 : w7.ownsRow w.heap.size 25 5 (.slice (some ⟨g7, 0, none⟩) (k + 1) cap7) (k + 1) ((o.take k ++ x :: o.drop k).flatMap encCube) := by
            have := Go.Joins.ownsRow_le r7 (base' := w.heap.size) (zW)
            simpa [List.flatMap_append, List.flatMap_cons, List.append_assoc, hd9] using this
          have C7 : Below w3.heap.size w3 w7 := hblW.trans (B7.mono hblW.size)
          have HOL2 : Hid ((o.take k ++ x :: o.drop k).length = k + 1) := Lib.hid (by rw [List.length_append, List.length_cons, List.length_take, List.length_drop, HOL.out]; omega)
          clear r7 h71
          go_wp2
          go_roundw
          case rel => exact ⟨k + 1, g7, cap7, _, by omega, by go_num, rfl, hc7, hm7, HS2, HOL2, r8, C7⟩
          case measure => simp [intOf]; omega
      have KA : Below W3.heap.size W3 (W3.alloc (.cells #[] 25)).drew := ((Below.refl _ _).alloc (Nat.le_refl _) _).drew
      have KA1 : Below W3.heap.size W3 ((W3.alloc (.cells #[] 25)).alloc (.cells #[.int .i64 x.pWest, .int .i64 x.pSouth, .int .i64 x.pSide, .int .i64 x.pFrom, .int .i64 x.pTo] 25)).drew := (((Below.refl _ _).alloc (Nat.le_refl _) _).alloc (by first | omega | (simp; done) | (simp; omega)) _).drew
      have KB : Below W3.heap.size W3 (W3.alloc (.cells #[.int .i64 x.pWest, .int .i64 x.pSouth, .int .i64 x.pSide, .int .i64 x.pFrom, .int .i64 x.pTo] 25)).drew := ((Below.refl _ _).alloc (Nat.le_refl _) _).drew
      have KB0 : Below W3.heap.size W3 ((W3.alloc (.cells #[.int .i64 x.pWest, .int .i64 x.pSouth, .int .i64 x.pSide, .int .i64 x.pFrom, .int .i64 x.pTo] 25)).alloc (.cells #[] 25)).drew := (((Below.refl _ _).alloc (Nat.le_refl _) _).alloc (by first | omega | (simp; done) | (simp; omega)) _).drew
      have rA : (W3.alloc (.cells #[] 25)).drew.ownsRow W3.heap.size 25 5 (.slice (some ⟨W3.heap.size, 0, none⟩) 0 0) 0 [] := rowK_empty W3 _ _ (Nat.le_refl _)
      have rA1 : ((W3.alloc (.cells #[] 25)).alloc (.cells #[.int .i64 x.pWest, .int .i64 x.pSouth, .int .i64 x.pSide, .int .i64 x.pFrom, .int .i64 x.pTo] 25)).drew.ownsRow W3.heap.size 25 5 (.slice (some ⟨W3.heap.size, 0, none⟩) 0 0) 0 [] := (rowK_empty W3 _ _ (Nat.le_refl _)).alloc _
      have rB0 : ((W3.alloc (.cells #[.int .i64 x.pWest, .int .i64 x.pSouth, .int .i64 x.pSide, .int .i64 x.pFrom, .int .i64 x.pTo] 25)).alloc (.cells #[] 25)).drew.ownsRow W3.heap.size 25 5 (.slice (some ⟨W3.heap.size + 1, 0, none⟩) 0 0) 0 [] := by
        have h9 : ((W3.alloc (.cells #[.int .i64 x.pWest, .int .i64 x.pSouth, .int .i64 x.pSide, .int .i64 x.pFrom, .int .i64 x.pTo] 25)).alloc (.cells #[] 25)).ownsRow W3.heap.size 25 5 (.slice (some ⟨W3.heap.size + 1, 0, none⟩) 0 0) 0 [] := by
          have := rowK_empty (W3.alloc (.cells #[.int .i64 x.pWest, .int .i64 x.pSouth, .int .i64 x.pSide, .int .i64 x.pFrom, .int .i64 x.pTo] 25)) (base := W3.heap.size) 25 5 (by first | omega | (simp; done) | (simp; omega))
          simpa using this
        exact h9
      have bA1 : Bx ((W3.alloc (.cells #[] 25)).alloc (.cells #[.int .i64 x.pWest, .int .i64 x.pSouth, .int .i64 x.pSide, .int .i64 x.pFrom, .int .i64 x.pTo] 25)).drew (W3.heap.size + 1) (encCube x) := Bx.new1 W3 (.cells #[] 25) (encCube x) 25
      have bB0 : Bx ((W3.alloc (.cells #[.int .i64 x.pWest, .int .i64 x.pSouth, .int .i64 x.pSide, .int .i64 x.pFrom, .int .i64 x.pTo] 25)).alloc (.cells #[] 25)).drew W3.heap.size (encCube x) := (Bx.new W3 (encCube x) 25).alloc _
      have Q1 : Hid (SrcK W3 5 (.slice (some ⟨g, 0, none⟩) m oc) m ((o.take m).flatMap encCube)) := Lib.hid (by
        have := row_part hrow3 (oneCube o) 0 m oc (Nat.zero_le _) (by omega)
        simpa [flat_takeK encCube_len] using this)
      have Q2 : Hid (SrcK W3 5 (.slice (some ⟨g, m * 5, none⟩) (k - m) (oc - m)) (k - m) ((o.drop m).flatMap encCube)) := Lib.hid (by
        have := row_part hrow3 (oneCube o) m k (oc - m) (by omega) (Nat.le_refl _)
        rwa [flat_dropK encCube_len, List.take_of_length_le (by rw [flat_len encCube_len, List.length_drop, HOL.out]; exact Nat.le_refl _)] at this)
      have ONE : Hid (∀ u ∈ encCube x, u.oneCell' = true) := Lib.hid (by intro u hu; exact oneCube [x] u (by simpa using hu))
      have HS0 : Hid (∀ w', Below W3.heap.size W3 w' → Below W3.heap.size W3 w' ∧ w'.cell? ⟨b9, off + k * 5, none⟩ = some (.int .i64 x.pWest) ∧ w'.cell? ⟨b9, off + k * 5 + 1, none⟩ = some (.int .i64 x.pSouth) ∧ w'.cell? ⟨b9, off + k * 5 + 2, none⟩ = some (.int .i64 x.pSide) ∧ w'.cell? ⟨b9, off + k * 5 + 3, none⟩ = some (.int .i64 x.pFrom) ∧ w'.cell? ⟨b9, off + k * 5 + 4, none⟩ = some (.int .i64 x.pTo)) := Lib.hid (fun w' q => ⟨q, cellOf q (cell_of_lt e0) e0, cellOf q (cell_of_lt e1) e1, cellOf q (cell_of_lt e2) e2, cellOf q (cell_of_lt e3) e3, cellOf q (cell_of_lt e4) e4⟩)
      have HSD : Hid (Below W3.heap.size W3 W3.drew) := Lib.hid (Below.refl _ _).drew
      have hcm3 : ¬ m = oc := hcm
      have hcm4 : ¬ oc = m := fun h => hcm h.symm
      have hcm7 : (k : Int) ≤ (oc : Int) := by omega
      have hcm8 : ¬ (oc : Int) < (m : Int) := by omega
      have hcm9 : ¬ (k : Int) < (m : Int) := by omega
      go_wp2
      go_region_held3 (fun w' => Below W3.heap.size W3 w' ∧ w'.cell? ⟨b9, off + k * 5, none⟩ = some (.int .i64 x.pWest) ∧ w'.cell? ⟨b9, off + k * 5 + 1, none⟩ = some (.int .i64 x.pSouth) ∧ w'.cell? ⟨b9, off + k * 5 + 2, none⟩ = some (.int .i64 x.pSide) ∧ w'.cell? ⟨b9, off + k * 5 + 3, none⟩ = some (.int .i64 x.pFrom) ∧ w'.cell? ⟨b9, off + k * 5 + 4, none⟩ = some (.int .i64 x.pTo))
        (first
          | exact HS0.out _ HSD.out
          | exact HS0.out _ (by with_reducible assumption))
        (first
          | (refine step_append_srcK (((W3.alloc (.cells #[] 25)).alloc (.cells #[.int .i64 x.pWest, .int .i64 x.pSouth, .int .i64 x.pSide, .int .i64 x.pFrom, .int .i64 x.pTo] 25)).drew) (by first | rfl | kernel_rfl) _ _ _ (by rfl) W3.heap.size 25 ti (.agg #[.int .i64 0, .int .i64 0, .int .i64 0, .int .i64 0, .int .i64 0]) 5 40 Try.underlying39 hti hz0 hz1 hz2 rfl (by decide) _ (0) ([]) (by rfl) (rA1) _ (m) _ (by rfl) (Q1.out.below KA1) (by unfold maxLen; omega) (by omega) (by first | omega | (simp; done) | (simp; omega)) ?_; intro v5 w5 hr5 hg5 hat5; have B5 : Below W3.heap.size W3 w5 := Below.grown KA1 hg5 (by first | omega | (simp; done) | (simp; omega)) (by intro q hq; cases hq; simp); have r5 : w5.ownsRow W3.heap.size 25 5 v5 m ((o.take m).flatMap encCube) := (by simpa using hr5); have z5 := B5.size; have b5 := bA1.grown (row := some W3.heap.size) hg5 (by simp); clear hr5 hg5 hat5)
          | (refine step_append_srcK (((W3.alloc (.cells #[.int .i64 x.pWest, .int .i64 x.pSouth, .int .i64 x.pSide, .int .i64 x.pFrom, .int .i64 x.pTo] 25)).alloc (.cells #[] 25)).drew) (by first | rfl | kernel_rfl) _ _ _ (by rfl) W3.heap.size 25 ti (.agg #[.int .i64 0, .int .i64 0, .int .i64 0, .int .i64 0, .int .i64 0]) 5 40 Try.underlying39 hti hz0 hz1 hz2 rfl (by decide) _ (0) ([]) (by rfl) (rB0) _ (m) _ (by rfl) (Q1.out.below KB0) (by unfold maxLen; omega) (by omega) (by first | omega | (simp; done) | (simp; omega)) ?_; intro v5 w5 hr5 hg5 hat5; have B5 : Below W3.heap.size W3 w5 := Below.grown KB0 hg5 (by first | omega | (simp; done) | (simp; omega)) (by intro q hq; cases hq; simp); have r5 : w5.ownsRow W3.heap.size 25 5 v5 m ((o.take m).flatMap encCube) := (by simpa using hr5); have z5 := B5.size; have b5 := bB0.grown (row := some (W3.heap.size + 1)) hg5 (by simp); clear hr5 hg5 hat5)
          | (refine step_append_srcK ((W3.alloc (.cells #[] 25)).drew) (by first | rfl | kernel_rfl) _ _ _ (by rfl) W3.heap.size 25 ti (.agg #[.int .i64 0, .int .i64 0, .int .i64 0, .int .i64 0, .int .i64 0]) 5 40 Try.underlying39 hti hz0 hz1 hz2 rfl (by decide) _ (0) ([]) (by rfl) (rA) _ (m) _ (by rfl) (Q1.out.below KA) (by unfold maxLen; omega) (by omega) (by first | omega | (simp; done) | (simp; omega)) ?_; intro v5 w5 hr5 hg5 hat5; have B5 : Below W3.heap.size W3 w5 := Below.grown KA hg5 (by first | omega | (simp; done) | (simp; omega)) (by intro q hq; cases hq; simp); have r5 : w5.ownsRow W3.heap.size 25 5 v5 m ((o.take m).flatMap encCube) := (by simpa using hr5); have z5 := B5.size; have K5 : Below W3.heap.size W3 (w5.alloc (.cells #[.int .i64 x.pWest, .int .i64 x.pSouth, .int .i64 x.pSide, .int .i64 x.pFrom, .int .i64 x.pTo] 25)) := B5.alloc B5.size _; have b5V : Bx (w5.alloc (.cells #[.int .i64 x.pWest, .int .i64 x.pSouth, .int .i64 x.pSide, .int .i64 x.pFrom, .int .i64 x.pTo] 25)) w5.heap.size (encCube x) := Bx.new w5 (encCube x) 25; clear hr5 hg5 hat5)
          | (refine step_append_srcK (w5) (by first | rfl | kernel_rfl) _ _ _ (by rfl) W3.heap.size 25 ti (.agg #[.int .i64 0, .int .i64 0, .int .i64 0, .int .i64 0, .int .i64 0]) 5 40 Try.underlying39 hti hz0 hz1 hz2 rfl (by decide) _ (m) ((o.take m).flatMap encCube) (by rfl) (r5) _ (1) _ (by rfl) (srcK_box b5 ONE.out) (by unfold maxLen; omega) (by omega) (z5) ?_; intro v6 w6 hr6 hg6 hat6; have B6 : Below W3.heap.size W3 w6 := Below.grown B5 hg6 (by first | omega | (simp; done) | (simp; omega)) (fun q hq => (r5.lt q hq).1); have r6 : w6.ownsRow W3.heap.size 25 5 v6 (m + 1) ((o.take m).flatMap encCube ++ encCube x) := (by simpa using hr6); have z6 := B6.size; clear hr6 hg6 hat6)
          | (refine step_append_srcK (w5.alloc (.cells #[.int .i64 x.pWest, .int .i64 x.pSouth, .int .i64 x.pSide, .int .i64 x.pFrom, .int .i64 x.pTo] 25)) (by first | rfl | kernel_rfl) _ _ _ (by rfl) W3.heap.size 25 ti (.agg #[.int .i64 0, .int .i64 0, .int .i64 0, .int .i64 0, .int .i64 0]) 5 40 Try.underlying39 hti hz0 hz1 hz2 rfl (by decide) _ (m) ((o.take m).flatMap encCube) (by rfl) (r5.alloc _) _ (1) _ (by rfl) (srcK_box b5V ONE.out) (by unfold maxLen; omega) (by omega) (by first | omega | (simp; done) | (simp; omega)) ?_; intro v6 w6 hr6 hg6 hat6; have B6 : Below W3.heap.size W3 w6 := Below.grown K5 hg6 (by first | omega | (simp; done) | (simp; omega)) (fun q hq => (r5.lt q hq).1); have r6 : w6.ownsRow W3.heap.size 25 5 v6 (m + 1) ((o.take m).flatMap encCube ++ encCube x) := (by simpa using hr6); have z6 := B6.size; clear hr6 hg6 hat6)
          | (refine step_append_srcK (w6) (by first | rfl | kernel_rfl) _ _ _ (by rfl) W3.heap.size 25 ti (.agg #[.int .i64 0, .int .i64 0, .int .i64 0, .int .i64 0, .int .i64 0]) 5 40 Try.underlying39 hti hz0 hz1 hz2 rfl (by decide) _ (m + 1) ((o.take m).flatMap encCube ++ encCube x) (by rfl) (r6) _ (k - m) _ (by rfl) (Q2.out.below B6) (by unfold maxLen; omega) (by omega) (z6) ?_; intro v7 w7 hr7 hg7 hat7; have B7 : Below W3.heap.size W3 w7 := Below.grown B6 hg7 (by first | omega | (simp; done) | (simp; omega)) (fun q hq => (r6.lt q hq).1); have r7 : w7.ownsRow W3.heap.size 25 5 v7 (m + 1 + (k - m)) ((o.take m).flatMap encCube ++ encCube x ++ (o.drop m).flatMap encCube) := (by simpa using hr7); have z7 := B7.size; clear hr7 hg7 hat7))
      all_goals
        have h71 : m + 1 + (k - m) = k + 1 := by omega
        rw [h71] at r7
        obtain ⟨g7, cap7, rfl, hc7, hm7, hL7, -⟩ := row_some r7 (by omega)
        have r8 : w7.ownsRow w.heap.size 25 5 (.slice (some ⟨g7, 0, none⟩) (k + 1) cap7) (k + 1) ((o.take m ++ x :: o.drop m).flatMap encCube) := by
          have := Go.Joins.ownsRow_le r7 (base' := w.heap.size) (zW)
          simpa [List.flatMap_append, List.flatMap_cons, List.append_assoc] using this
        have C7 : Below w3.heap.size w3 w7 := hblW.trans (B7.mono hblW.size)
        have HOL2 : Hid ((o.take m ++ x :: o.drop m).length = k + 1) := Lib.hid (by rw [List.length_append, List.length_cons, List.length_take, List.length_drop, HOL.out]; omega)
        clear r7 h71
        go_wp2
        go_roundw
        case rel => exact ⟨k + 1, g7, cap7, _, by omega, by go_num, rfl, hc7, hm7, HS2, HOL2, r8, C7⟩
        case measure => simp [intOf]; omega
end Go.Proofs.Ytoogofceoinniaa
