/- Picks: the program's test of a list. -/
import Derived.Test.YtklilfbokpljkaaPqJ
namespace Go.Proofs.Ytklilfbokpljkaa
open Go.ChangeShapes Go.WideShapes Go.ChangeAt Go.RowKit Go.ChangeMaps Go.Sort Go.Shelf
set_option linter.unusedSimpArgs false
set_option linter.unusedVariables false

theorem Bx.puts {w : World} {b : Nat} {cs ds : List Value} (h : Bx w b cs) (hl : ds.length = cs.length) : Bx (putCells w b 0 ds 0) b ds := by
  refine ⟨⟨by rw [putCells_size]; exact h.1.1, fun i => by rw [putCells_frozen]; exact h.1.2 i⟩, fun i c hi => ?_⟩
  have := putCells_at b 0 ds w 0 (fun j hj => by
    obtain ⟨u, hu⟩ := get_of_lt (l := cs) (k := j) (by omega)
    have := h.2 j u hu
    rw [Nat.zero_add, Nat.zero_add, this]; rfl) i c hi
  rwa [Nat.zero_add, Nat.zero_add] at this
set_option maxHeartbeats 1000000 in
theorem implWithNo (xs : List GPick) (v : Value) (id : Int) (w : World) (B : Nat) (h : PickL w B v xs) (hB : B ≤ w.heap.size) (hn : xs.length ≤ 1048576) (hl : lookP xs id = none) :
    Calls Try.prog 158 #[v, .int .i64 id] w fun e w' => e = .returned (.tuple #[.agg #[.int .i64 0, .int .i64 0, .int .i64 0, .int .i64 0, .int .i64 0, .int .i64 0, .int .i64 0], .bool false]) ∧ Below w.heap.size w w' := by
  have N : Hid (Below w.heap.size w ((w.alloc (.cells #[.int .i64 id] 3)).alloc (.cells #[.int .i64 0, .int .i64 0, .int .i64 0, .int .i64 0, .int .i64 0, .int .i64 0, .int .i64 0] 76))) := Lib.hid ((below_cell (w := w) (Nat.le_refl _) (.cells #[.int .i64 id] 3)).alloc (by first | omega | (simp; done) | (simp; omega)) _)
  have bx := (Bx.new w [.int .i64 id] 3).alloc (.cells #[.int .i64 0, .int .i64 0, .int .i64 0, .int .i64 0, .int .i64 0, .int .i64 0, .int .i64 0] 76)
  have bz : Bx ((w.alloc (.cells #[.int .i64 id] 3)).alloc (.cells #[.int .i64 0, .int .i64 0, .int .i64 0, .int .i64 0, .int .i64 0, .int .i64 0, .int .i64 0] 76)) (w.heap.size + 1) (encPick zeroPick) := Bx.new1 w (.cells #[.int .i64 id] 3) (encPick zeroPick) 76
  have hi : isPl (fun s => decide (s.pId = id)) xs (-1) := Or.inl ⟨rfl, fun s hs => decide_eq_false (look_nil hl s hs)⟩
  have C := Lib.hid (idxFn _ _ #[.pointer (some ⟨w.heap.size, 0, none⟩)] enters_id xs v (-1) _ (w.heap.size + 1) B (h.below (N.out.mono hB)) (Nat.le_trans hB N.out.size) (by first | omega | (simp; done) | (simp; omega)) hn hi (testId id w.heap.size _ _ (bx.2 0 _ rfl) (by omega)))
  clear bx hi hl
  obtain ⟨ao, cap, rfl⟩ := h.form
  go_enter Try.func158, Try.ntmps158
  go_wp2_with fail
  refine C.out.mono ?_
  rintro e w1 ⟨rfl, hb⟩
  have C1 := N.out.trans (hb.mono N.out.size)
  have bz1 := bz.below hb
  have z0 : w1.cell? ⟨w.heap.size + 1, 0, none⟩ = some (.int .i64 0) := bz1.2 0 _ rfl
  have fz0 : w1.frozen? ⟨w.heap.size + 1, 0, none⟩ = false := bz1.1.2 0
  have z1 : w1.cell? ⟨w.heap.size + 1, 1, none⟩ = some (.int .i64 0) := bz1.2 1 _ rfl
  have fz1 : w1.frozen? ⟨w.heap.size + 1, 1, none⟩ = false := bz1.1.2 1
  have z2 : w1.cell? ⟨w.heap.size + 1, 2, none⟩ = some (.int .i64 0) := bz1.2 2 _ rfl
  have fz2 : w1.frozen? ⟨w.heap.size + 1, 2, none⟩ = false := bz1.1.2 2
  have z3 : w1.cell? ⟨w.heap.size + 1, 3, none⟩ = some (.int .i64 0) := bz1.2 3 _ rfl
  have fz3 : w1.frozen? ⟨w.heap.size + 1, 3, none⟩ = false := bz1.1.2 3
  have z4 : w1.cell? ⟨w.heap.size + 1, 4, none⟩ = some (.int .i64 0) := bz1.2 4 _ rfl
  have fz4 : w1.frozen? ⟨w.heap.size + 1, 4, none⟩ = false := bz1.1.2 4
  have z5 : w1.cell? ⟨w.heap.size + 1, 5, none⟩ = some (.int .i64 0) := bz1.2 5 _ rfl
  have fz5 : w1.frozen? ⟨w.heap.size + 1, 5, none⟩ = false := bz1.1.2 5
  have z6 : w1.cell? ⟨w.heap.size + 1, 6, none⟩ = some (.int .i64 0) := bz1.2 6 _ rfl
  have fz6 : w1.frozen? ⟨w.heap.size + 1, 6, none⟩ = false := bz1.1.2 6
  go_wp2
  change bodyPost _ _ _ _ _ (putCells w1 (w.heap.size + 1) 0 (encPick zeroPick) 0)
  have bw := bz1.puts (ds := encPick zeroPick) rfl
  have BW := below_putCells C1 (b := w.heap.size + 1) (by omega) 0 (encPick zeroPick) 0
  generalize putCells w1 (w.heap.size + 1) 0 (encPick zeroPick) 0 = wf at *
  have y0 : wf.cell? ⟨w.heap.size + 1, 0, none⟩ = some (.int .i64 0) := bw.2 0 _ rfl
  have y1 : wf.cell? ⟨w.heap.size + 1, 1, none⟩ = some (.int .i64 0) := bw.2 1 _ rfl
  have y2 : wf.cell? ⟨w.heap.size + 1, 2, none⟩ = some (.int .i64 0) := bw.2 2 _ rfl
  have y3 : wf.cell? ⟨w.heap.size + 1, 3, none⟩ = some (.int .i64 0) := bw.2 3 _ rfl
  have y4 : wf.cell? ⟨w.heap.size + 1, 4, none⟩ = some (.int .i64 0) := bw.2 4 _ rfl
  have y5 : wf.cell? ⟨w.heap.size + 1, 5, none⟩ = some (.int .i64 0) := bw.2 5 _ rfl
  have y6 : wf.cell? ⟨w.heap.size + 1, 6, none⟩ = some (.int .i64 0) := bw.2 6 _ rfl
  refine bodyPost_ret (v := .tuple #[.agg #[.int .i64 0, .int .i64 0, .int .i64 0, .int .i64 0, .int .i64 0, .int .i64 0, .int .i64 0], .bool false]) (by simp [results, Try.results158, go_sem, y0, y1, y2, y3, y4, y5, y6]) rfl ⟨rfl, BW⟩
set_option maxHeartbeats 1000000 in
theorem implWithYes (xs : List GPick) (v : Value) (id : Int) (s : GPick) (w : World) (B : Nat) (h : PickL w B v xs) (hB : B ≤ w.heap.size) (hn : xs.length ≤ 1048576) (hl : lookP xs id = some s) :
    Calls Try.prog 158 #[v, .int .i64 id] w fun e w' => e = .returned (.tuple #[.agg #[.int .i64 s.pId, .int .i64 s.pStation, .int .i64 s.pWave, .int .i64 s.pTick, .int .i64 s.pError, .int .i64 s.pBy, .int .i64 s.pAfter], .bool true]) ∧ Below w.heap.size w w' := by
  have N : Hid (Below w.heap.size w ((w.alloc (.cells #[.int .i64 id] 3)).alloc (.cells #[.int .i64 0, .int .i64 0, .int .i64 0, .int .i64 0, .int .i64 0, .int .i64 0, .int .i64 0] 76))) := Lib.hid ((below_cell (w := w) (Nat.le_refl _) (.cells #[.int .i64 id] 3)).alloc (by first | omega | (simp; done) | (simp; omega)) _)
  have bx := (Bx.new w [.int .i64 id] 3).alloc (.cells #[.int .i64 0, .int .i64 0, .int .i64 0, .int .i64 0, .int .i64 0, .int .i64 0, .int .i64 0] 76)
  have bz : Bx ((w.alloc (.cells #[.int .i64 id] 3)).alloc (.cells #[.int .i64 0, .int .i64 0, .int .i64 0, .int .i64 0, .int .i64 0, .int .i64 0, .int .i64 0] 76)) (w.heap.size + 1) (encPick zeroPick) := Bx.new1 w (.cells #[.int .i64 id] 3) (encPick zeroPick) 76
  obtain ⟨k, hs, he, hf⟩ := look_some hl
  have hi : isPl (fun s => decide (s.pId = id)) xs k := Or.inr ⟨k, s, rfl, hs, decide_eq_true he, fun j t ht hj => decide_eq_false (hf j t ht hj)⟩
  have C := Lib.hid (idxFn _ _ #[.pointer (some ⟨w.heap.size, 0, none⟩)] enters_id xs v k _ (w.heap.size + 1) B (h.below (N.out.mono hB)) (Nat.le_trans hB N.out.size) (by first | omega | (simp; done) | (simp; omega)) hn hi (testId id w.heap.size _ _ (bx.2 0 _ rfl) (by omega)))
  have hk : k < xs.length := (List.getElem?_eq_some_iff.1 hs).1
  obtain ⟨ao, cap, rfl, hcap, hmax, hnn, hc⟩ := h
  unfold maxLen at hmax
  obtain ⟨b, off, rfl, hb', hcell⟩ := hc k s hs
  have HCell := Lib.hid hcell
  clear bx hi hl hc hnn hf hs he hcell
  have hk0 : (0 : Int) ≤ (k : Int) := by omega
  have hk1 : (k : Int) < (xs.length : Int) := by omega
  have hk2 : ¬ (k : Int) < 0 := by omega
  have hk3 : decide ((k : Int) < 0) = false := decide_eq_false hk2
  go_enter Try.func158, Try.ntmps158
  go_wp2_with fail
  refine C.out.mono ?_
  rintro e w1 ⟨rfl, hb⟩
  have C1 := N.out.trans (hb.mono N.out.size)
  have bz1 := bz.below hb
  have z0 : w1.cell? ⟨w.heap.size + 1, 0, none⟩ = some (.int .i64 0) := bz1.2 0 _ rfl
  have fz0 : w1.frozen? ⟨w.heap.size + 1, 0, none⟩ = false := bz1.1.2 0
  have z1 : w1.cell? ⟨w.heap.size + 1, 1, none⟩ = some (.int .i64 0) := bz1.2 1 _ rfl
  have fz1 : w1.frozen? ⟨w.heap.size + 1, 1, none⟩ = false := bz1.1.2 1
  have z2 : w1.cell? ⟨w.heap.size + 1, 2, none⟩ = some (.int .i64 0) := bz1.2 2 _ rfl
  have fz2 : w1.frozen? ⟨w.heap.size + 1, 2, none⟩ = false := bz1.1.2 2
  have z3 : w1.cell? ⟨w.heap.size + 1, 3, none⟩ = some (.int .i64 0) := bz1.2 3 _ rfl
  have fz3 : w1.frozen? ⟨w.heap.size + 1, 3, none⟩ = false := bz1.1.2 3
  have z4 : w1.cell? ⟨w.heap.size + 1, 4, none⟩ = some (.int .i64 0) := bz1.2 4 _ rfl
  have fz4 : w1.frozen? ⟨w.heap.size + 1, 4, none⟩ = false := bz1.1.2 4
  have z5 : w1.cell? ⟨w.heap.size + 1, 5, none⟩ = some (.int .i64 0) := bz1.2 5 _ rfl
  have fz5 : w1.frozen? ⟨w.heap.size + 1, 5, none⟩ = false := bz1.1.2 5
  have z6 : w1.cell? ⟨w.heap.size + 1, 6, none⟩ = some (.int .i64 0) := bz1.2 6 _ rfl
  have fz6 : w1.frozen? ⟨w.heap.size + 1, 6, none⟩ = false := bz1.1.2 6
  have c0 : w1.cell? ⟨b, off + k * 7, none⟩ = some (.int .i64 s.pId) := cellOf C1 (by omega) (HCell.out 0 _ rfl)
  have c1 : w1.cell? ⟨b, off + k * 7 + 1, none⟩ = some (.int .i64 s.pStation) := cellOf C1 (by omega) (HCell.out 1 _ rfl)
  have c2 : w1.cell? ⟨b, off + k * 7 + 2, none⟩ = some (.int .i64 s.pWave) := cellOf C1 (by omega) (HCell.out 2 _ rfl)
  have c3 : w1.cell? ⟨b, off + k * 7 + 3, none⟩ = some (.int .i64 s.pTick) := cellOf C1 (by omega) (HCell.out 3 _ rfl)
  have c4 : w1.cell? ⟨b, off + k * 7 + 4, none⟩ = some (.int .i64 s.pError) := cellOf C1 (by omega) (HCell.out 4 _ rfl)
  have c5 : w1.cell? ⟨b, off + k * 7 + 5, none⟩ = some (.int .i64 s.pBy) := cellOf C1 (by omega) (HCell.out 5 _ rfl)
  have c6 : w1.cell? ⟨b, off + k * 7 + 6, none⟩ = some (.int .i64 s.pAfter) := cellOf C1 (by omega) (HCell.out 6 _ rfl)
  go_wp2
  change bodyPost _ _ _ _ _ (putCells w1 (w.heap.size + 1) 0 (encPick s) 0)
  have bw := bz1.puts (ds := encPick s) rfl
  have BW := below_putCells C1 (b := w.heap.size + 1) (by omega) 0 (encPick s) 0
  generalize putCells w1 (w.heap.size + 1) 0 (encPick s) 0 = wf at *
  have y0 : wf.cell? ⟨w.heap.size + 1, 0, none⟩ = some (.int .i64 s.pId) := bw.2 0 _ rfl
  have y1 : wf.cell? ⟨w.heap.size + 1, 1, none⟩ = some (.int .i64 s.pStation) := bw.2 1 _ rfl
  have y2 : wf.cell? ⟨w.heap.size + 1, 2, none⟩ = some (.int .i64 s.pWave) := bw.2 2 _ rfl
  have y3 : wf.cell? ⟨w.heap.size + 1, 3, none⟩ = some (.int .i64 s.pTick) := bw.2 3 _ rfl
  have y4 : wf.cell? ⟨w.heap.size + 1, 4, none⟩ = some (.int .i64 s.pError) := bw.2 4 _ rfl
  have y5 : wf.cell? ⟨w.heap.size + 1, 5, none⟩ = some (.int .i64 s.pBy) := bw.2 5 _ rfl
  have y6 : wf.cell? ⟨w.heap.size + 1, 6, none⟩ = some (.int .i64 s.pAfter) := bw.2 6 _ rfl
  refine bodyPost_ret (v := .tuple #[.agg #[.int .i64 s.pId, .int .i64 s.pStation, .int .i64 s.pWave, .int .i64 s.pTick, .int .i64 s.pError, .int .i64 s.pBy, .int .i64 s.pAfter], .bool true]) (by simp [results, Try.results158, go_sem, y0, y1, y2, y3, y4, y5, y6]) rfl ⟨rfl, BW⟩

set_option maxRecDepth 100000 in
set_option maxHeartbeats 2000000 in
theorem implRep (xs : List GPick) (v : Value) (p : GPick) (r : Bool) (w : World) (B : Nat) (h : PickL w B v xs) (hB : B ≤ w.heap.size) (hn : xs.length ≤ 1048576) (hr : r = true ↔ repP xs p) :
    Calls Try.prog 171 #[v, .agg #[.int .i64 p.pId, .int .i64 p.pStation, .int .i64 p.pWave, .int .i64 p.pTick, .int .i64 p.pError, .int .i64 p.pBy, .int .i64 p.pAfter]] w fun e w' => e = .returned (.bool r) ∧ Below w.heap.size w w' := by
  have HR := Lib.hid hr
  clear hr
  have HL := Lib.hid h
  obtain ⟨ao, cap, rfl⟩ := h.form
  clear h
  have N := Lib.hid (below_cell (w := w) (Nat.le_refl _) (.cells #[.int .i64 p.pId, .int .i64 p.pStation, .int .i64 p.pWave, .int .i64 p.pTick, .int .i64 p.pError, .int .i64 p.pBy, .int .i64 p.pAfter] 76))
  have bx : Bx (w.alloc (.cells #[.int .i64 p.pId, .int .i64 p.pStation, .int .i64 p.pWave, .int .i64 p.pTick, .int .i64 p.pError, .int .i64 p.pBy, .int .i64 p.pAfter] 76)) w.heap.size (encPick p) := Bx.new w (encPick p) 76
  cases hlk : lookP xs p.pAfter with
  | none =>
    have HF : Hid (false = r) := Lib.hid (by
      cases r with
      | false => rfl
      | true => obtain ⟨q, hq, _⟩ := HR.out.1 rfl; rw [hlk] at hq; cases hq)
    have C := Lib.hid (implWithNo xs _ p.pAfter _ B (HL.out.below (N.out.mono hB)) (Nat.le_trans hB N.out.size) hn hlk)
    clear hlk
    go_enter Try.func171, Try.ntmps171
    go_wp2_with fail
    refine C.out.mono ?_
    rintro e w1 ⟨rfl, hb⟩
    have C1 := N.out.trans (hb.mono N.out.size)
    go_wp2
    go_ret
    exact ⟨ret_bool HF.out, C1.alloc C1.size _⟩
  | some s =>
    have C := Lib.hid (implWithYes xs _ p.pAfter s _ B (HL.out.below (N.out.mono hB)) (Nat.le_trans hB N.out.size) hn hlk)
    have hid := (look_mem hlk).2
    generalize hcu : curB xs s.pId = c
    have HC := Lib.hid hcu
    have HE : Hid ((c = true ∧ s.pStation = p.pStation) ∧ s.pWave = p.pWave ↔ r = true) := Lib.hid ⟨fun g => HR.out.2 ⟨s, hlk, ⟨by rw [← hid, hcu]; exact g.1.1, g.1.2⟩, g.2⟩, fun g => by
      obtain ⟨q, hq, h1, h2⟩ := HR.out.1 g
      rw [hlk] at hq; cases hq
      rw [← hid, hcu] at h1
      exact ⟨h1, h2⟩⟩
    clear hlk hid hcu
    go_enter Try.func171, Try.ntmps171
    go_wp2_with fail
    refine C.out.mono ?_
    rintro e w1 ⟨rfl, hb⟩
    have C1 := N.out.trans (hb.mono N.out.size)
    have bx1 := (bx.below hb)
    have M1 := below_cell (w := w1) (Nat.le_refl _) (.cells #[.int .i64 s.pId, .int .i64 s.pStation, .int .i64 s.pWave, .int .i64 s.pTick, .int .i64 s.pError, .int .i64 s.pBy, .int .i64 s.pAfter] 76)
    have C2 : Below w.heap.size w (w1.alloc (.cells #[.int .i64 s.pId, .int .i64 s.pStation, .int .i64 s.pWave, .int .i64 s.pTick, .int .i64 s.pError, .int .i64 s.pBy, .int .i64 s.pAfter] 76)) := C1.trans (M1.mono C1.size)
    have bs : Bx (w1.alloc (.cells #[.int .i64 s.pId, .int .i64 s.pStation, .int .i64 s.pWave, .int .i64 s.pTick, .int .i64 s.pError, .int .i64 s.pBy, .int .i64 s.pAfter] 76)) w1.heap.size (encPick s) := Bx.new w1 (encPick s) 76
    have bp2 := bx1.below M1
    have CC := Lib.hid (implCur xs (.slice ao xs.length cap) s c _ B (HL.out.below (C2.mono hB)) (Nat.le_trans hB C2.size) hn HC.out)
    clear M1 C1 bx1 bx hb C
    go_wp2_with fail
    refine CC.out.mono ?_
    rintro e w2 ⟨rfl, hb⟩
    have C3 := C2.trans (hb.mono C2.size)
    have bs3 := bs.below hb
    have bp3 := bp2.below hb
    have p1 : w2.cell? ⟨w.heap.size, 1, none⟩ = some (.int .i64 p.pStation) := bp3.2 1 _ rfl
    have p2 : w2.cell? ⟨w.heap.size, 2, none⟩ = some (.int .i64 p.pWave) := bp3.2 2 _ rfl
    have s1 : w2.cell? ⟨w1.heap.size, 1, none⟩ = some (.int .i64 s.pStation) := bs3.2 1 _ rfl
    have s2 : w2.cell? ⟨w1.heap.size, 2, none⟩ = some (.int .i64 s.pWave) := bs3.2 2 _ rfl
    have l1 := cell_of_lt p1
    have l2 := cell_of_lt s1
    clear bs bp2 bs3 bp3 hb C2 CC
    cases c with
    | false =>
      have HF : Hid (false = r) := Lib.hid (by
        cases r with
        | false => rfl
        | true => have := (HE.out.2 rfl).1.1; cases this)
      go_wp2
      go_ret
      exact ⟨ret_bool HF.out, C3⟩
    | true =>
    by_cases hst : s.pStation = p.pStation
    case neg =>
      have HF : Hid (false = r) := Lib.hid (by
        cases r with
        | false => rfl
        | true => exact absurd (HE.out.2 rfl).1.2 hst)
      have t1 : (s.pStation == p.pStation) = false := by simp [hst]
      have t2 : (s.pStation != p.pStation) = true := by simp [hst]
      clear hst
      go_wp2
      first
        | (go_ret; exact ⟨ret_bool HF.out, C3⟩)
        | (go_quiet (fail); go_wp2; go_ret; exact ⟨ret_bool HF.out, drewN_b C3 _⟩)
    have t1 : (s.pStation == p.pStation) = true := by simp [hst]
    have t2 : (s.pStation != p.pStation) = false := by simp [hst]
    by_cases hwv : s.pWave = p.pWave
    case neg =>
      have HF : Hid (false = r) := Lib.hid (by
        cases r with
        | false => rfl
        | true => exact absurd (HE.out.2 rfl).2 hwv)
      have t3 : (s.pWave == p.pWave) = false := by simp [hwv]
      have t4 : (s.pWave != p.pWave) = true := by simp [hwv]
      clear hwv hst
      go_wp2
      first
        | (go_ret; exact ⟨ret_bool HF.out, C3⟩)
        | (go_quiet (fail); go_wp2; go_ret; exact ⟨ret_bool HF.out, drewN_b C3 _⟩)
    have t3 : (s.pWave == p.pWave) = true := by simp [hwv]
    have t4 : (s.pWave != p.pWave) = false := by simp [hwv]
    have HF : Hid (true = r) := Lib.hid (HE.out.1 ⟨⟨rfl, hst⟩, hwv⟩).symm
    clear hst hwv
    go_wp2
    first
      | (go_ret; exact ⟨ret_bool HF.out, C3⟩)
      | (go_quiet (fail); go_wp2; go_ret; exact ⟨ret_bool HF.out, drewN_b C3 _⟩)
end Go.Proofs.Ytklilfbokpljkaa
