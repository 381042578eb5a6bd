/- Picks: RevisePick. -/
import Derived.Test.YtoimoaeaejbfdaaPqT
import Derived.Test.YtoimoaeaejbfdaaAcc
import Derived.Test.YtoimoaeaejbfdaaIns
import Derived.IntWalk
namespace Go.Proofs.Ytoimoaeaejbfdaa
open Go.ChangeShapes Go.WideShapes Go.ChangeAt Go.RowKit Go.ChangeMaps Go.Sort Go.Shelf
set_option linter.unusedSimpArgs false
set_option linter.unusedVariables false

theorem ownK_empty1 (w : World) (o : Obj) {L : Nat} (e : TypeId) (h : L ≤ w.heap.size + 1) : PickO ((w.alloc o).alloc (.cells #[] e)) L ((w.alloc o).alloc (.cells #[] e)).heap.size (.slice (some ⟨w.heap.size + 1, 0, none⟩) 0 0) [] := by
  have := ownK_empty encPick_len (by omega) (w.alloc o) (L := L) e (by simpa using h)
  rwa [show (w.alloc o).heap.size = w.heap.size + 1 by simp] at this
theorem resRev_lenS (xs : List GPick) (id tick err by_ : Int) : szsPick (resRev xs id tick err by_) ≤ 1048576 := by
  rw [szsPick_split]
  have := resRev_len xs id tick err by_
  omega
set_option maxRecDepth 100000 in
set_option maxHeartbeats 4000000 in
theorem specRev (xs : List GPick) (v : Value) (id tick err by_ : Int) (w : World) (B : Nat) (h : PickL w B v xs) (hB : B ≤ w.heap.size) (hn : szsPick xs ≤ 1048576) (hw : ∀ s ∈ xs, wfPick s) (_ : I64 id) (_ : I64 tick) (_ : I64 err) (_ : I64 by_) :
    Calls Try.prog 18 #[v, .int .i64 id, .int .i64 tick, .int .i64 err, .int .i64 by_] w fun e w' => ∃ v', e = .returned (.tuple #[v', .int .i64 (nextRev xs id tick err by_), .bool (okRev xs id tick err by_)]) ∧ PickO w' w.heap.size w'.heap.size v' (resRev xs id tick err by_) ∧ Below w.heap.size w w' := by
  have hl := Nat.le_trans (szsPick_len xs) hn
  obtain ⟨r, hr⟩ := isIdx_ex xs id
  have CF := Lib.hid (specFind xs v id r w B h hr hl)
  cases hg : goodP xs with
  | false =>
    have C := Lib.hid (specGoodP xs v false w B h hB hl hg)
    obtain ⟨e1, e2, e3⟩ := rev_bad (id := id) (tick := tick) (err := err) (by_ := by_) hg
    rw [e1, e2, e3]
    clear e1 e2 e3 hg hr
    obtain ⟨ao, cap, rfl⟩ := h.form
    go_enter Try.func18, Try.ntmps18
    go_wp2_with fail
    refine CF.out.mono ?_
    rintro e w1 ⟨rfl, rfl⟩
    go_wp2_with fail
    refine C.out.mono ?_
    rintro e w2 ⟨rfl, hb⟩
    go_wp2
    go_ret3
    exact ⟨_, rfl, ownK_empty encPick_len (by omega) _ 43 hb.size, hb.alloc hb.size _⟩
  | true =>
  have C := Lib.hid (specGoodP xs v true w B h hB hl hg)
  have HL := Lib.hid h
  rcases hr with ⟨rfl, -, hlk⟩ | ⟨k, q, rfl, hk, hqi, -, hlk⟩
  · obtain ⟨e1, e2, e3⟩ := rev_none (tick := tick) (err := err) (by_ := by_) hlk
    rw [e1, e2, e3]
    clear e1 e2 e3 hg hlk
    obtain ⟨ao, cap, rfl⟩ := h.form
    go_enter Try.func18, Try.ntmps18
    go_wp2_with fail
    refine CF.out.mono ?_
    rintro e w1 ⟨rfl, rfl⟩
    go_wp2_with fail
    refine C.out.mono ?_
    rintro e w2 ⟨rfl, hb⟩
    go_wp2
    go_ret3
    exact ⟨_, rfl, ownK_empty encPick_len (by omega) _ 43 hb.size, hb.alloc hb.size _⟩
  have hkl : k < xs.length := (List.getElem?_eq_some_iff.1 hk).1
  have hok := goodP_yes hg
  have hl12 := hok.1
  have k0 : (0 : Int) ≤ (k : Int) := by omega
  have k1 : (k : Int) < (xs.length : Int) := by omega
  have k2 : ¬ (k : Int) < 0 := by omega
  have k3 : decide ((k : Int) < 0) = false := decide_eq_false k2
  cases hcu : curB xs id with
  | false =>
    obtain ⟨e1, e2, e3⟩ := rev_not (tick := tick) (err := err) (by_ := by_) hlk (new_not hg hlk hcu)
    rw [e1, e2, e3]
    have HCU := Lib.hid hcu
    clear e1 e2 e3 hg hlk hk hcu hqi
    obtain ⟨ao, cap, rfl⟩ := h.form
    clear h
    go_enter Try.func18, Try.ntmps18
    go_wp2_with fail
    refine CF.out.mono ?_
    rintro e w1 ⟨rfl, rfl⟩
    go_wp2_with fail
    refine C.out.mono ?_
    rintro e w2 ⟨rfl, hb⟩
    go_wp2_with fail
    refine (specCurB xs _ id false w2 B (HL.out.below (hb.mono hB)) HCU.out hl).mono ?_
    rintro e w3 ⟨rfl, rfl⟩
    go_wp2
    go_ret3
    exact ⟨_, rfl, ownK_empty encPick_len (by omega) _ 43 hb.size, hb.alloc hb.size _⟩
  | true =>
  have HCU := Lib.hid hcu
  have HLK := Lib.hid hlk
  have HGG := Lib.hid hg
  have hid1 := (okP_mem hok (look_mem hlk).1).1
  obtain ⟨pl, hpl⟩ := get_of_lt (l := xs) (k := xs.length - 1) (by omega)
  have hlast := lastId_at hpl
  have hlo := (okP_mem hok (List.mem_of_getElem? hpl)).1
  have HOKK := Lib.hid hok
  obtain ⟨ao, cap, rfl, hcap, hmax, hnn, hc⟩ := h
  unfold maxLen at hmax
  obtain ⟨b, off, rfl, hb', hcell⟩ := hc k q hk
  obtain ⟨b2, off2, e9, -, hcell2⟩ := hc _ pl hpl
  simp only [Option.some.injEq, Addr.mk.injEq, and_true] at e9
  obtain ⟨rfl, rfl⟩ := e9
  have HQ := Lib.hid hcell
  have HP2 := Lib.hid hcell2
  have l0 : (0 : Int) ≤ (xs.length : Int) - 1 := by omega
  have l1 : (xs.length : Int) - 1 < (xs.length : Int) := by omega
  have l2 : ((xs.length : Int) - 1).toNat = xs.length - 1 := by omega
  clear hcu hlk hg hok hk hc hnn hcell hcell2 hpl
  go_enter Try.func18, Try.ntmps18
  go_wp2_with fail
  refine CF.out.mono ?_
  rintro e w1 ⟨rfl, rfl⟩
  go_wp2_with fail
  refine C.out.mono ?_
  rintro e w2 ⟨rfl, hb⟩
  go_wp2_with fail
  refine (specCurB xs _ id true w2 B (HL.out.below (hb.mono hB)) HCU.out hl).mono ?_
  rintro e w3 ⟨rfl, rfl⟩
  have p0 : w3.cell? ⟨b, off + (xs.length - 1) * 7, none⟩ = some (.int .i64 pl.pId) := cellOf hb (by omega) (HP2.out 0 _ rfl)
  have c0 : w3.cell? ⟨b, off + k * 7, none⟩ = some (.int .i64 q.pId) := cellOf hb (by omega) (HQ.out 0 _ rfl)
  have c1 : w3.cell? ⟨b, off + k * 7 + 1, none⟩ = some (.int .i64 q.pStation) := cellOf hb (by omega) (HQ.out 1 _ rfl)
  have c2 : w3.cell? ⟨b, off + k * 7 + 2, none⟩ = some (.int .i64 q.pWave) := cellOf hb (by omega) (HQ.out 2 _ rfl)
  have c3 : w3.cell? ⟨b, off + k * 7 + 3, none⟩ = some (.int .i64 q.pTick) := cellOf hb (by omega) (HQ.out 3 _ rfl)
  have c4 : w3.cell? ⟨b, off + k * 7 + 4, none⟩ = some (.int .i64 q.pError) := cellOf hb (by omega) (HQ.out 4 _ rfl)
  have c5 : w3.cell? ⟨b, off + k * 7 + 5, none⟩ = some (.int .i64 q.pBy) := cellOf hb (by omega) (HQ.out 5 _ rfl)
  have c6 : w3.cell? ⟨b, off + k * 7 + 6, none⟩ = some (.int .i64 q.pAfter) := cellOf hb (by omega) (HQ.out 6 _ rfl)
  obtain ⟨np, hnp⟩ : ∃ np : GPick, np = ⟨pl.pId + 1, q.pStation, q.pWave, tick, err, by_, id⟩ := ⟨_, rfl⟩
  have HNP : Hid (np = newP q (lastId xs + 1) tick err by_) := Lib.hid (by rw [hnp, hlast]; unfold newP; rw [hqi])
  have HENC : Hid (encPick np = [.int .i64 (pl.pId + 1), .int .i64 q.pStation, .int .i64 q.pWave, .int .i64 tick, .int .i64 err, .int .i64 by_, .int .i64 id]) := Lib.hid (by rw [hnp]; rfl)
  have HLAST := Lib.hid hlast
  clear hnp hlast hqi
  obtain ⟨w4, rfl⟩ : ∃ w4 : World, w4 = w3 := ⟨_, rfl⟩
  obtain ⟨ti, hi, hz0, hz1, hz2⟩ := info_parts info_Pick
  have KA : Below w4.heap.size w4 (w4.alloc (.cells #[] 43)).drew := ((Below.refl _ _).alloc (Nat.le_refl _) _).drew
  have KA1 : Below w4.heap.size w4 ((w4.alloc (.cells #[] 43)).alloc (.cells #[.int .i64 (pl.pId + 1), .int .i64 q.pStation, .int .i64 q.pWave, .int .i64 tick, .int .i64 err, .int .i64 by_, .int .i64 id] 43)).drew := (((Below.refl _ _).alloc (Nat.le_refl _) _).alloc (by first | omega | (simp; done) | (simp; omega)) _).drew
  have KB : Below w4.heap.size w4 (w4.alloc (.cells #[.int .i64 (pl.pId + 1), .int .i64 q.pStation, .int .i64 q.pWave, .int .i64 tick, .int .i64 err, .int .i64 by_, .int .i64 id] 43)).drew := ((Below.refl _ _).alloc (Nat.le_refl _) _).drew
  have KB0 : Below w4.heap.size w4 ((w4.alloc (.cells #[.int .i64 (pl.pId + 1), .int .i64 q.pStation, .int .i64 q.pWave, .int .i64 tick, .int .i64 err, .int .i64 by_, .int .i64 id] 43)).alloc (.cells #[] 43)).drew := (((Below.refl _ _).alloc (Nat.le_refl _) _).alloc (by first | omega | (simp; done) | (simp; omega)) _).drew
  have rA : (w4.alloc (.cells #[] 43)).drew.ownsRow w4.heap.size 43 7 (.slice (some ⟨w4.heap.size, 0, none⟩) 0 0) 0 [] := rowK_empty w4 _ _ (Nat.le_refl _)
  have rA1 : ((w4.alloc (.cells #[] 43)).alloc (.cells #[.int .i64 (pl.pId + 1), .int .i64 q.pStation, .int .i64 q.pWave, .int .i64 tick, .int .i64 err, .int .i64 by_, .int .i64 id] 43)).drew.ownsRow w4.heap.size 43 7 (.slice (some ⟨w4.heap.size, 0, none⟩) 0 0) 0 [] := (rowK_empty w4 _ _ (Nat.le_refl _)).alloc _
  have rB0 : ((w4.alloc (.cells #[.int .i64 (pl.pId + 1), .int .i64 q.pStation, .int .i64 q.pWave, .int .i64 tick, .int .i64 err, .int .i64 by_, .int .i64 id] 43)).alloc (.cells #[] 43)).drew.ownsRow w4.heap.size 43 7 (.slice (some ⟨w4.heap.size + 1, 0, none⟩) 0 0) 0 [] := by
    have h9 : ((w4.alloc (.cells #[.int .i64 (pl.pId + 1), .int .i64 q.pStation, .int .i64 q.pWave, .int .i64 tick, .int .i64 err, .int .i64 by_, .int .i64 id] 43)).alloc (.cells #[] 43)).ownsRow w4.heap.size 43 7 (.slice (some ⟨w4.heap.size + 1, 0, none⟩) 0 0) 0 [] := by
      have := rowK_empty (w4.alloc (.cells #[.int .i64 (pl.pId + 1), .int .i64 q.pStation, .int .i64 q.pWave, .int .i64 tick, .int .i64 err, .int .i64 by_, .int .i64 id] 43)) (base := w4.heap.size) 43 7 (by first | omega | (simp; done) | (simp; omega))
      simpa using this
    exact h9
  have bA1 : Bx ((w4.alloc (.cells #[] 43)).alloc (.cells #[.int .i64 (pl.pId + 1), .int .i64 q.pStation, .int .i64 q.pWave, .int .i64 tick, .int .i64 err, .int .i64 by_, .int .i64 id] 43)).drew (w4.heap.size + 1) [.int .i64 (pl.pId + 1), .int .i64 q.pStation, .int .i64 q.pWave, .int .i64 tick, .int .i64 err, .int .i64 by_, .int .i64 id] := Bx.new1 w4 (.cells #[] 43) [.int .i64 (pl.pId + 1), .int .i64 q.pStation, .int .i64 q.pWave, .int .i64 tick, .int .i64 err, .int .i64 by_, .int .i64 id] 43
  have bB0 : Bx ((w4.alloc (.cells #[.int .i64 (pl.pId + 1), .int .i64 q.pStation, .int .i64 q.pWave, .int .i64 tick, .int .i64 err, .int .i64 by_, .int .i64 id] 43)).alloc (.cells #[] 43)).drew w4.heap.size [.int .i64 (pl.pId + 1), .int .i64 q.pStation, .int .i64 q.pWave, .int .i64 tick, .int .i64 err, .int .i64 by_, .int .i64 id] := (Bx.new w4 [.int .i64 (pl.pId + 1), .int .i64 q.pStation, .int .i64 q.pWave, .int .i64 tick, .int .i64 err, .int .i64 by_, .int .i64 id] 43).alloc _
  have Q1 := Lib.hid (src_of (HL.out.below (hb.mono hB)) rfl)
  have ONE : Hid (∀ u ∈ ([.int .i64 (pl.pId + 1), .int .i64 q.pStation, .int .i64 q.pWave, .int .i64 tick, .int .i64 err, .int .i64 by_, .int .i64 id] : List Value), u.oneCell' = true) := Lib.hid (fun u hu => by rw [← HENC.out] at hu; exact onePick [np] u (by simpa using hu))
  have HS0 : Hid (∀ w', Below w4.heap.size w4 w' → Below w4.heap.size w4 w' ∧ w'.cell? ⟨b, off + k * 7 + 1, none⟩ = some (.int .i64 q.pStation) ∧ w'.cell? ⟨b, off + k * 7 + 2, none⟩ = some (.int .i64 q.pWave)) := Lib.hid (fun w' qq => ⟨qq, cellOf qq (cell_of_lt c1) c1, cellOf qq (cell_of_lt c2) c2⟩)
  go_wp2
  go_region_held3 (fun w' => Below w4.heap.size w4 w' ∧ w'.cell? ⟨b, off + k * 7 + 1, none⟩ = some (.int .i64 q.pStation) ∧ w'.cell? ⟨b, off + k * 7 + 2, none⟩ = some (.int .i64 q.pWave))
    (first
      | exact HS0.out _ (Below.refl _ _).drew
      | exact HS0.out _ (by with_reducible assumption))
    (first
      | (refine step_append_srcK (((w4.alloc (.cells #[] 43)).alloc (.cells #[.int .i64 (pl.pId + 1), .int .i64 q.pStation, .int .i64 q.pWave, .int .i64 tick, .int .i64 err, .int .i64 by_, .int .i64 id] 43)).drew) (by rfl) _ _ _ (by rfl) w4.heap.size 43 ti (.agg #[.int .i64 0, .int .i64 0, .int .i64 0, .int .i64 0, .int .i64 0, .int .i64 0, .int .i64 0]) 7 56 Try.underlying24 hi hz0 hz1 hz2 rfl (by decide) _ (0) ([]) (by rfl) (rA1) _ (xs.length) _ (by rfl) (Q1.out.below KA1) (by unfold maxLen; omega) (by omega) (by first | omega | (simp; done) | (simp; omega)) ?_; intro v5 w5 hr5 hg5 hat5; have B5 : Below w4.heap.size w4 w5 := Below.grown KA1 hg5 (by first | omega | (simp; done) | (simp; omega)) (by intro q hq; cases hq; simp); have r5 : w5.ownsRow w4.heap.size 43 7 v5 xs.length (xs.flatMap encPick) := (by simpa using hr5); have z5 := B5.size; have b5 := bA1.grown (row := some w4.heap.size) hg5 (by simp); clear hr5 hg5 hat5)
      | (refine step_append_srcK (((w4.alloc (.cells #[.int .i64 (pl.pId + 1), .int .i64 q.pStation, .int .i64 q.pWave, .int .i64 tick, .int .i64 err, .int .i64 by_, .int .i64 id] 43)).alloc (.cells #[] 43)).drew) (by rfl) _ _ _ (by rfl) w4.heap.size 43 ti (.agg #[.int .i64 0, .int .i64 0, .int .i64 0, .int .i64 0, .int .i64 0, .int .i64 0, .int .i64 0]) 7 56 Try.underlying24 hi hz0 hz1 hz2 rfl (by decide) _ (0) ([]) (by rfl) (rB0) _ (xs.length) _ (by rfl) (Q1.out.below KB0) (by unfold maxLen; omega) (by omega) (by first | omega | (simp; done) | (simp; omega)) ?_; intro v5 w5 hr5 hg5 hat5; have B5 : Below w4.heap.size w4 w5 := Below.grown KB0 hg5 (by first | omega | (simp; done) | (simp; omega)) (by intro q hq; cases hq; simp); have r5 : w5.ownsRow w4.heap.size 43 7 v5 xs.length (xs.flatMap encPick) := (by simpa using hr5); have z5 := B5.size; have b5 := bB0.grown (row := some (w4.heap.size + 1)) hg5 (by simp); clear hr5 hg5 hat5)
      | (refine step_append_srcK ((w4.alloc (.cells #[] 43)).drew) (by rfl) _ _ _ (by rfl) w4.heap.size 43 ti (.agg #[.int .i64 0, .int .i64 0, .int .i64 0, .int .i64 0, .int .i64 0, .int .i64 0, .int .i64 0]) 7 56 Try.underlying24 hi hz0 hz1 hz2 rfl (by decide) _ (0) ([]) (by rfl) (rA) _ (xs.length) _ (by rfl) (Q1.out.below KA) (by unfold maxLen; omega) (by omega) (by first | omega | (simp; done) | (simp; omega)) ?_; intro v5 w5 hr5 hg5 hat5; have B5 : Below w4.heap.size w4 w5 := Below.grown KA hg5 (by first | omega | (simp; done) | (simp; omega)) (by intro q hq; cases hq; simp); have r5 : w5.ownsRow w4.heap.size 43 7 v5 xs.length (xs.flatMap encPick) := (by simpa using hr5); have z5 := B5.size; have K5 : Below w4.heap.size w4 (w5.alloc (.cells #[.int .i64 (pl.pId + 1), .int .i64 q.pStation, .int .i64 q.pWave, .int .i64 tick, .int .i64 err, .int .i64 by_, .int .i64 id] 43)) := B5.alloc B5.size _; have b5V : Bx (w5.alloc (.cells #[.int .i64 (pl.pId + 1), .int .i64 q.pStation, .int .i64 q.pWave, .int .i64 tick, .int .i64 err, .int .i64 by_, .int .i64 id] 43)) w5.heap.size [.int .i64 (pl.pId + 1), .int .i64 q.pStation, .int .i64 q.pWave, .int .i64 tick, .int .i64 err, .int .i64 by_, .int .i64 id] := Bx.new w5 [.int .i64 (pl.pId + 1), .int .i64 q.pStation, .int .i64 q.pWave, .int .i64 tick, .int .i64 err, .int .i64 by_, .int .i64 id] 43; clear hr5 hg5 hat5)
      | (refine step_append_srcK (w5) (by rfl) _ _ _ (by rfl) w4.heap.size 43 ti (.agg #[.int .i64 0, .int .i64 0, .int .i64 0, .int .i64 0, .int .i64 0, .int .i64 0, .int .i64 0]) 7 56 Try.underlying24 hi hz0 hz1 hz2 rfl (by decide) _ (xs.length) (xs.flatMap encPick) (by rfl) (r5) _ (1) _ (by rfl) (srcK_box b5 ONE.out) (by unfold maxLen; omega) (by omega) (z5) ?_; intro v6 w6 hr6 hg6 hat6; have B6 : Below w4.heap.size w4 w6 := Below.grown B5 hg6 (by first | omega | (simp; done) | (simp; omega)) (fun q hq => (r5.lt q hq).1); have r6 : w6.ownsRow w4.heap.size 43 7 v6 (xs.length + 1) (xs.flatMap encPick ++ [.int .i64 (pl.pId + 1), .int .i64 q.pStation, .int .i64 q.pWave, .int .i64 tick, .int .i64 err, .int .i64 by_, .int .i64 id]) := hr6; have z6 := B6.size; clear hr6 hg6 hat6)
      | (refine step_append_srcK (w5.alloc (.cells #[.int .i64 (pl.pId + 1), .int .i64 q.pStation, .int .i64 q.pWave, .int .i64 tick, .int .i64 err, .int .i64 by_, .int .i64 id] 43)) (by rfl) _ _ _ (by rfl) w4.heap.size 43 ti (.agg #[.int .i64 0, .int .i64 0, .int .i64 0, .int .i64 0, .int .i64 0, .int .i64 0, .int .i64 0]) 7 56 Try.underlying24 hi hz0 hz1 hz2 rfl (by decide) _ (xs.length) (xs.flatMap encPick) (by rfl) (r5.alloc _) _ (1) _ (by rfl) (srcK_box b5V ONE.out) (by unfold maxLen; omega) (by omega) (by first | omega | (simp; done) | (simp; omega)) ?_; intro v6 w6 hr6 hg6 hat6; have B6 : Below w4.heap.size w4 w6 := Below.grown K5 hg6 (by first | omega | (simp; done) | (simp; omega)) (fun q hq => (r5.lt q hq).1); have r6 : w6.ownsRow w4.heap.size 43 7 v6 (xs.length + 1) (xs.flatMap encPick ++ [.int .i64 (pl.pId + 1), .int .i64 q.pStation, .int .i64 q.pWave, .int .i64 tick, .int .i64 err, .int .i64 by_, .int .i64 id]) := hr6; have z6 := B6.size; clear hr6 hg6 hat6))
  all_goals
    have ho6 : w6.ownsRow w4.heap.size 43 7 v6 (xs.length + 1) ((xs ++ [np]).flatMap encPick) := by
      have := r6
      rw [← HENC.out] at this
      simpa [List.flatMap_append] using this
    have O6 := Lib.hid (OwnK.of_row encPick_len (by omega) ho6)
    have HXL : Hid ((xs ++ [np]).length = xs.length + 1) := Lib.hid (by simp)
    have Z4 := hb.size
    have B6w := hb.trans (B6.mono Z4)
    obtain ⟨g6, cap6, rfl, hc6, hm6, hL6, -⟩ := row_some ho6 (by omega)
    have HL6 := Lib.hid O6.out.lst
    generalize hgo : goodP (xs ++ [np]) = u
    have CG := Lib.hid (specGoodP (xs ++ [np]) _ u w6 w6.heap.size HL6.out (Nat.le_refl _) (by rw [HXL.out]; omega) hgo)
    cases u with
    | false =>
      obtain ⟨e1, e2, e3⟩ := rev_not (id := id) (tick := tick) (err := err) (by_ := by_) HLK.out (by rw [← HNP.out]; exact hgo)
      have E1 := Lib.hid e1
      have E2 := Lib.hid e2
      have E3 := Lib.hid e3
      clear e1 e2 e3 hgo r6 ho6
      go_wp2_with fail
      refine CG.out.mono ?_
      rintro e w7 ⟨rfl, hb7⟩
      have B7 := B6w.trans (hb7.mono B6w.size)
      go_wp2
      go_ret3
      exact ⟨_, by rw [E1.out, E3.out]; rfl, by rw [E2.out]; exact ownK_empty encPick_len (by omega) _ 43 B7.size, B7.alloc B7.size _⟩
    | true =>
      obtain ⟨e1, e2, e3⟩ := rev_mk (id := id) (tick := tick) (err := err) (by_ := by_) HGG.out HLK.out (by rw [← HNP.out]; exact hgo)
      have E1 := Lib.hid e1
      have E2 : Hid (resRev xs id tick err by_ = xs ++ [np]) := Lib.hid (by rw [e2, HNP.out])
      have E3 : Hid (nextRev xs id tick err by_ = pl.pId + 1) := Lib.hid (by rw [e3, HLAST.out])
      clear e1 e2 e3 hgo r6 ho6
      go_wp2_with fail
      refine CG.out.mono ?_
      rintro e w7 ⟨rfl, hb7⟩
      have B7 := B6w.trans (hb7.mono B6w.size)
      have O7 := (O6.out.below hb7).mono Z4 hb7.size
      go_wp2
      go_ret3
      exact ⟨_, by rw [E1.out, E3.out]; rfl, by rw [E2.out]; exact O7, B7⟩

theorem clonePickR (xs : List GPick) (v : Value) (w : World) (B : Nat) (h : PickL w B v xs) (hB : B ≤ w.heap.size) (hn : xs.length ≤ 1048576) :
    Calls Try.prog 65 #[v] w fun e w' => ∃ v', e = .returned v' ∧ w'.ownsRow w.heap.size 43 7 v' xs.length (xs.flatMap encPick) ∧ Below w.heap.size w w' := by
  obtain ⟨ti, hi, hz0, hz1, hz2⟩ := info_parts info_Pick
  have hrow := rowK_empty w (base := w.heap.size) 43 7 (Nat.le_refl _)
  have hnil := fun (W : World) (a : Option Addr) (l c : Nat) => Lib.run_eql_slice_nil (P := Try.prog) W 24 43 a l c 0 0 Try.underlying24
  rcases h.split encPick_len (by omega) with ⟨rfl, rfl⟩ | ⟨a, cap, rfl, _, _, hc⟩
  · go_enter Try.func65, Try.ntmps65
    go_wp2
    go_ret
    exact ⟨_, rfl, World.ownsRow_nil _ _ 43 7, Below.refl _ _⟩
  · have HC := Lib.hid (fun j u (hu : (xs.flatMap encPick)[j]? = some u) => (((Below.refl B w).alloc hB (.cells #[] 43)).cell (hc j u hu).1).trans (hc j u hu).2)
    have H1 := Lib.hid (onePick xs)
    have HL : Hid ((xs.flatMap encPick).length = xs.length * 7) := Lib.hid (flat_len encPick_len xs)
    clear hc h
    go_enter Try.func65, Try.ntmps65
    go_wp2_with (at_builtin; refine wpList_append_own _ rfl _ _ 24 rfl w.heap.size 43 ti (.agg #[.int .i64 0, .int .i64 0, .int .i64 0, .int .i64 0, .int .i64 0, .int .i64 0, .int .i64 0]) 7 56 Try.underlying24 hi hz0 hz1 hz2 rfl (by decide) _ 0 [] rfl hrow a xs.length _ (xs.flatMap encPick) rfl HL.out HC.out H1.out (by unfold maxLen; omega) (by omega) (by simp) ?_; intro v' w1 hown hg _)
    go_ret
    have ho : w1.ownsRow w.heap.size 43 7 v' xs.length (xs.flatMap encPick) := by simpa using hown
    exact ⟨_, rfl, ho, below_appK hg (by intro g e; cases e; exact Nat.le_refl _)⟩

set_option maxRecDepth 100000 in
set_option maxHeartbeats 4000000 in
theorem implRev (xs : List GPick) (v : Value) (id tick err by_ : Int) (w : World) (B : Nat) (h : PickL w B v xs) (hB : B ≤ w.heap.size) (hn : szsPick xs ≤ 1048576) (hw : ∀ s ∈ xs, wfPick s) (_ : I64 id) (_ : I64 tick) (_ : I64 err) (_ : I64 by_) :
    Calls Try.prog 17 #[v, .int .i64 id, .int .i64 tick, .int .i64 err, .int .i64 by_] w fun e w' => ∃ v', e = .returned (.tuple #[v', .int .i64 (nextRev xs id tick err by_), .bool (okRev xs id tick err by_)]) ∧ PickO w' w.heap.size w'.heap.size v' (resRev xs id tick err by_) ∧ Below w.heap.size w w' := by
  have hl := Nat.le_trans (szsPick_len xs) hn
  cases hg : goodP xs with
  | false =>
    have C := Lib.hid (implGoodP xs v false w B h hB hl hg)
    obtain ⟨e1, e2, e3⟩ := rev_bad (id := id) (tick := tick) (err := err) (by_ := by_) hg
    rw [e1, e2, e3]
    clear e1 e2 e3 hg
    obtain ⟨ao, cap, rfl⟩ := h.form
    go_enter Try.func17, Try.ntmps17
    go_wp2_with fail
    refine C.out.mono ?_
    rintro e w1 ⟨rfl, hb⟩
    go_wp2
    go_ret3
    exact ⟨_, rfl, ownK_empty encPick_len (by omega) _ 43 hb.size, hb.alloc hb.size _⟩
  | true =>
  have C := Lib.hid (implGoodP xs v true w B h hB hl hg)
  have HL := Lib.hid h
  cases hlk : lookP xs id with
  | none =>
    obtain ⟨e1, e2, e3⟩ := rev_none (tick := tick) (err := err) (by_ := by_) hlk
    rw [e1, e2, e3]
    have HK := Lib.hid hlk
    clear e1 e2 e3 hg hlk
    obtain ⟨ao, cap, rfl⟩ := h.form
    clear h
    go_enter Try.func17, Try.ntmps17
    go_wp2_with fail
    refine C.out.mono ?_
    rintro e w1 ⟨rfl, hb⟩
    go_wp2_with fail
    refine (implWithNo xs _ id w1 B (HL.out.below (hb.mono hB)) (Nat.le_trans hB hb.size) hl HK.out).mono ?_
    rintro e w2 ⟨rfl, hb2⟩
    have C2 := hb.trans (hb2.mono hb.size)
    have C3 := C2.alloc C2.size (.cells #[.int .i64 zeroPick.pId, .int .i64 zeroPick.pStation, .int .i64 zeroPick.pWave, .int .i64 zeroPick.pTick, .int .i64 zeroPick.pError, .int .i64 zeroPick.pBy, .int .i64 zeroPick.pAfter] 43)
    go_wp2
    go_ret3
    exact ⟨_, rfl, ownK_empty1 w2 _ 43 (Nat.le_succ_of_le C2.size), C3.alloc C3.size _⟩
  | some q =>
  obtain ⟨k, hk, hqi, -⟩ := look_some hlk
  have hkl : k < xs.length := (List.getElem?_eq_some_iff.1 hk).1
  have hok := goodP_yes hg
  have hl12 := hok.1
  have HLK := Lib.hid hlk
  have HGG := Lib.hid hg
  have hid1 := (okP_mem hok (look_mem hlk).1).1
  obtain ⟨pl, hpl⟩ := get_of_lt (l := xs) (k := xs.length - 1) (by omega)
  have hlast := lastId_at hpl
  have hlo := (okP_mem hok (List.mem_of_getElem? hpl)).1
  obtain ⟨ao, cap, rfl, hcap, hmax, hnn, hc⟩ := h
  unfold maxLen at hmax
  obtain ⟨b, off, rfl, hb', hcell2⟩ := hc _ pl hpl
  have HP2 := Lib.hid hcell2
  have l0 : (0 : Int) ≤ (xs.length : Int) - 1 := by omega
  have l1 : (xs.length : Int) - 1 < (xs.length : Int) := by omega
  have l2 : ((xs.length : Int) - 1).toNat = xs.length - 1 := by omega
  obtain ⟨np, hnp⟩ : ∃ np : GPick, np = ⟨pl.pId + 1, q.pStation, q.pWave, tick, err, by_, q.pId⟩ := ⟨_, rfl⟩
  have HNP : Hid (np = newP q (lastId xs + 1) tick err by_) := Lib.hid (by rw [hnp, hlast]; rfl)
  have HENC : Hid (encPick np = [.int .i64 (pl.pId + 1), .int .i64 q.pStation, .int .i64 q.pWave, .int .i64 tick, .int .i64 err, .int .i64 by_, .int .i64 q.pId]) := Lib.hid (by rw [hnp]; rfl)
  have HLAST := Lib.hid hlast
  clear hnp hlast hqi hlk hg hok hk hc hnn hcell2 hpl
  obtain ⟨ti, hi, hz0, hz1, hz2⟩ := info_parts info_Pick
  go_enter Try.func17, Try.ntmps17
  go_wp2_with fail
  refine C.out.mono ?_
  rintro e w1 ⟨rfl, hb⟩
  go_wp2_with fail
  refine (implWithYes xs _ id q w1 B (HL.out.below (hb.mono hB)) (Nat.le_trans hB hb.size) hl HLK.out).mono ?_
  rintro e w2 ⟨rfl, hb2⟩
  have C2 := hb.trans (hb2.mono hb.size)
  have bq : Bx (w2.alloc (.cells #[.int .i64 q.pId, .int .i64 q.pStation, .int .i64 q.pWave, .int .i64 q.pTick, .int .i64 q.pError, .int .i64 q.pBy, .int .i64 q.pAfter] 43)) w2.heap.size (encPick q) := Bx.new w2 (encPick q) 43
  have C3 := C2.alloc C2.size (.cells #[.int .i64 q.pId, .int .i64 q.pStation, .int .i64 q.pWave, .int .i64 q.pTick, .int .i64 q.pError, .int .i64 q.pBy, .int .i64 q.pAfter] 43)
  have p0 : (w2.alloc (.cells #[.int .i64 q.pId, .int .i64 q.pStation, .int .i64 q.pWave, .int .i64 q.pTick, .int .i64 q.pError, .int .i64 q.pBy, .int .i64 q.pAfter] 43)).cell? ⟨b, off + (xs.length - 1) * 7, none⟩ = some (.int .i64 pl.pId) := cellOf C3 (by omega) (HP2.out 0 _ rfl)
  have c0 : (w2.alloc (.cells #[.int .i64 q.pId, .int .i64 q.pStation, .int .i64 q.pWave, .int .i64 q.pTick, .int .i64 q.pError, .int .i64 q.pBy, .int .i64 q.pAfter] 43)).cell? ⟨w2.heap.size, 0, none⟩ = some (.int .i64 q.pId) := bq.2 0 _ rfl
  have c1 : (w2.alloc (.cells #[.int .i64 q.pId, .int .i64 q.pStation, .int .i64 q.pWave, .int .i64 q.pTick, .int .i64 q.pError, .int .i64 q.pBy, .int .i64 q.pAfter] 43)).cell? ⟨w2.heap.size, 1, none⟩ = some (.int .i64 q.pStation) := bq.2 1 _ rfl
  have c2 : (w2.alloc (.cells #[.int .i64 q.pId, .int .i64 q.pStation, .int .i64 q.pWave, .int .i64 q.pTick, .int .i64 q.pError, .int .i64 q.pBy, .int .i64 q.pAfter] 43)).cell? ⟨w2.heap.size, 2, none⟩ = some (.int .i64 q.pWave) := bq.2 2 _ rfl
  have c3 : (w2.alloc (.cells #[.int .i64 q.pId, .int .i64 q.pStation, .int .i64 q.pWave, .int .i64 q.pTick, .int .i64 q.pError, .int .i64 q.pBy, .int .i64 q.pAfter] 43)).cell? ⟨w2.heap.size, 3, none⟩ = some (.int .i64 q.pTick) := bq.2 3 _ rfl
  have c4 : (w2.alloc (.cells #[.int .i64 q.pId, .int .i64 q.pStation, .int .i64 q.pWave, .int .i64 q.pTick, .int .i64 q.pError, .int .i64 q.pBy, .int .i64 q.pAfter] 43)).cell? ⟨w2.heap.size, 4, none⟩ = some (.int .i64 q.pError) := bq.2 4 _ rfl
  have c5 : (w2.alloc (.cells #[.int .i64 q.pId, .int .i64 q.pStation, .int .i64 q.pWave, .int .i64 q.pTick, .int .i64 q.pError, .int .i64 q.pBy, .int .i64 q.pAfter] 43)).cell? ⟨w2.heap.size, 5, none⟩ = some (.int .i64 q.pBy) := bq.2 5 _ rfl
  have c6 : (w2.alloc (.cells #[.int .i64 q.pId, .int .i64 q.pStation, .int .i64 q.pWave, .int .i64 q.pTick, .int .i64 q.pError, .int .i64 q.pBy, .int .i64 q.pAfter] 43)).cell? ⟨w2.heap.size, 6, none⟩ = some (.int .i64 q.pAfter) := bq.2 6 _ rfl
  clear hb hb2 C
  have zq : w2.heap.size < (w2.alloc (.cells #[.int .i64 q.pId, .int .i64 q.pStation, .int .i64 q.pWave, .int .i64 q.pTick, .int .i64 q.pError, .int .i64 q.pBy, .int .i64 q.pAfter] 43)).heap.size := by simp
  go_wp2
  generalize w2.alloc (.cells #[.int .i64 q.pId, .int .i64 q.pStation, .int .i64 q.pWave, .int .i64 q.pTick, .int .i64 q.pError, .int .i64 q.pBy, .int .i64 q.pAfter] 43) = w4 at *
  have HS0 : Hid (∀ w', Below w4.heap.size w4 w' → Below w4.heap.size w4 w' ∧ w'.cell? ⟨b, off + (xs.length - 1) * 7, none⟩ = some (.int .i64 pl.pId) ∧ w'.cell? ⟨w2.heap.size, 0, none⟩ = some (.int .i64 q.pId) ∧ w'.cell? ⟨w2.heap.size, 1, none⟩ = some (.int .i64 q.pStation) ∧ w'.cell? ⟨w2.heap.size, 2, none⟩ = some (.int .i64 q.pWave)) := Lib.hid (fun w' qq => ⟨qq, cellOf qq (cell_of_lt p0) p0, cellOf qq (cell_of_lt c0) c0, cellOf qq (cell_of_lt c1) c1, cellOf qq (cell_of_lt c2) c2⟩)
  have KA : Below w4.heap.size w4 (w4.alloc (.cells #[.int .i64 0, .int .i64 0, .int .i64 0, .int .i64 0, .int .i64 0, .int .i64 0, .int .i64 0] 43)).drew := ((Below.refl _ _).alloc (Nat.le_refl _) _).drew
  have KB : Below w4.heap.size w4 (w4.alloc (.cells #[.int .i64 (pl.pId + 1), .int .i64 q.pStation, .int .i64 q.pWave, .int .i64 tick, .int .i64 err, .int .i64 by_, .int .i64 q.pId] 43)).drew := ((Below.refl _ _).alloc (Nat.le_refl _) _).drew
  have l3 : (1 : Int) ≤ (xs.length : Int) := by omega
  have l4 : 1 ≤ xs.length := by omega
  have l5 : 0 < xs.length := by omega
  have l7 : (0 : Int) < (xs.length : Int) := by omega
  have l8 : IntKind.i64.wrap ((xs.length : Int) - 1) = (xs.length : Int) - 1 := IntWalk.i64_in _ (by omega)
  have l9 : IntKind.i64.wrap (pl.pId + 1) = pl.pId + 1 := IntWalk.i64_in _ (by omega)
  go_region_held3 (fun w' => Below w4.heap.size w4 w' ∧ w'.cell? ⟨b, off + (xs.length - 1) * 7, none⟩ = some (.int .i64 pl.pId) ∧ w'.cell? ⟨w2.heap.size, 0, none⟩ = some (.int .i64 q.pId) ∧ w'.cell? ⟨w2.heap.size, 1, none⟩ = some (.int .i64 q.pStation) ∧ w'.cell? ⟨w2.heap.size, 2, none⟩ = some (.int .i64 q.pWave))
    (first
      | exact HS0.out _ (Below.refl _ _).drew
      | exact HS0.out _ (by with_reducible assumption))
    (fail)
  have bn : Bx (w4.alloc (.cells #[.int .i64 (pl.pId + 1), .int .i64 q.pStation, .int .i64 q.pWave, .int .i64 tick, .int .i64 err, .int .i64 by_, .int .i64 q.pId] 43)).drew w4.heap.size [.int .i64 (pl.pId + 1), .int .i64 q.pStation, .int .i64 q.pWave, .int .i64 tick, .int .i64 err, .int .i64 by_, .int .i64 q.pId] := Bx.new w4 [.int .i64 (pl.pId + 1), .int .i64 q.pStation, .int .i64 q.pWave, .int .i64 tick, .int .i64 err, .int .i64 by_, .int .i64 q.pId] 43
  generalize (w4.alloc (.cells #[.int .i64 (pl.pId + 1), .int .i64 q.pStation, .int .i64 q.pWave, .int .i64 tick, .int .i64 err, .int .i64 by_, .int .i64 q.pId] 43)).drew = w5 at *
  have C5 := C3.trans (KB.mono C3.size)
  have z5 := C5.size
  have ONE : Hid (∀ u ∈ ([.int .i64 (pl.pId + 1), .int .i64 q.pStation, .int .i64 q.pWave, .int .i64 tick, .int .i64 err, .int .i64 by_, .int .i64 q.pId] : List Value), u.oneCell' = true) := Lib.hid (fun u hu => by rw [← HENC.out] at hu; exact onePick [np] u (by simpa using hu))
  clear p0 c0 c1 c2 c3 c4 c5 c6 KA HS0 bq
  obtain ⟨w9, rfl⟩ : ∃ w9 : World, w9 = w5 := ⟨_, rfl⟩
  have n0 := bn.2 0 _ rfl
  have n1 := bn.2 1 _ rfl
  have n2 := bn.2 2 _ rfl
  have n3 := bn.2 3 _ rfl
  have n4 := bn.2 4 _ rfl
  have n5 := bn.2 5 _ rfl
  have n6 := bn.2 6 _ rfl
  have HBN := Lib.hid bn
  have LC := Lib.hid (HL.out.below (C5.mono hB))
  have KB9 : Below w9.heap.size w9 (w9.alloc (.cells #[.int .i64 (pl.pId + 1), .int .i64 q.pStation, .int .i64 q.pWave, .int .i64 tick, .int .i64 err, .int .i64 by_, .int .i64 q.pId] 43)).drew := ((Below.refl _ _).alloc (Nat.le_refl _) _).drew
  have HS9 : Hid (∀ w', Below w9.heap.size w9 w' → Below w9.heap.size w9 w' ∧ w'.cell? ⟨w4.heap.size, 0, none⟩ = some (.int .i64 (pl.pId + 1)) ∧ w'.cell? ⟨w4.heap.size, 1, none⟩ = some (.int .i64 q.pStation) ∧ w'.cell? ⟨w4.heap.size, 2, none⟩ = some (.int .i64 q.pWave) ∧ w'.cell? ⟨w4.heap.size, 3, none⟩ = some (.int .i64 tick) ∧ w'.cell? ⟨w4.heap.size, 4, none⟩ = some (.int .i64 err) ∧ w'.cell? ⟨w4.heap.size, 5, none⟩ = some (.int .i64 by_) ∧ w'.cell? ⟨w4.heap.size, 6, none⟩ = some (.int .i64 q.pId)) := Lib.hid (fun w' qq => ⟨qq, cellOf qq (cell_of_lt n0) n0, cellOf qq (cell_of_lt n1) n1, cellOf qq (cell_of_lt n2) n2, cellOf qq (cell_of_lt n3) n3, cellOf qq (cell_of_lt n4) n4, cellOf qq (cell_of_lt n5) n5, cellOf qq (cell_of_lt n6) n6⟩)
  have HS8 : Hid (∀ w', Below w9.heap.size w9 w' → Below w9.heap.size w9 w' ∧ w'.cell? ⟨w4.heap.size, 0, none⟩ = some (.int .i64 (pl.pId + 1)) ∧ w'.cell? ⟨w4.heap.size, 1, none⟩ = some (.int .i64 q.pStation) ∧ w'.cell? ⟨w4.heap.size, 2, none⟩ = some (.int .i64 q.pWave) ∧ w'.cell? ⟨w4.heap.size, 3, none⟩ = some (.int .i64 tick) ∧ w'.cell? ⟨w4.heap.size, 4, none⟩ = some (.int .i64 err) ∧ w'.cell? ⟨w4.heap.size, 5, none⟩ = some (.int .i64 by_) ∧ w'.cell? ⟨w4.heap.size, 6, none⟩ = some (.int .i64 q.pId)) := HS9
  go_wp2
  go_region_held3 (fun w' => Below w9.heap.size w9 w' ∧ w'.cell? ⟨w4.heap.size, 0, none⟩ = some (.int .i64 (pl.pId + 1)) ∧ w'.cell? ⟨w4.heap.size, 1, none⟩ = some (.int .i64 q.pStation) ∧ w'.cell? ⟨w4.heap.size, 2, none⟩ = some (.int .i64 q.pWave) ∧ w'.cell? ⟨w4.heap.size, 3, none⟩ = some (.int .i64 tick) ∧ w'.cell? ⟨w4.heap.size, 4, none⟩ = some (.int .i64 err) ∧ w'.cell? ⟨w4.heap.size, 5, none⟩ = some (.int .i64 by_) ∧ w'.cell? ⟨w4.heap.size, 6, none⟩ = some (.int .i64 q.pId))
    (first
      | exact HS9.out _ (Below.refl _ _).drew
      | exact HS9.out _ (by with_reducible assumption))
    (first
      | (go_at_call 65; refine (clonePickR xs _ (w9.drew) B LC.out (Nat.le_trans hB z5) hl).mono ?_; rintro e w6 ⟨v6, rfl, ho6, hb6⟩; have B6 : Below w9.heap.size w9 w6 := ((Below.refl w9.heap.size w9).drew).trans hb6; have r6 : w6.ownsRow w9.heap.size 43 7 v6 xs.length (xs.flatMap encPick) := ho6; have z6 := B6.size; have K6 : Below w9.heap.size w9 (w6.alloc (.cells #[.int .i64 (pl.pId + 1), .int .i64 q.pStation, .int .i64 q.pWave, .int .i64 tick, .int .i64 err, .int .i64 by_, .int .i64 q.pId] 43)) := B6.alloc B6.size _; have b6V : Bx (w6.alloc (.cells #[.int .i64 (pl.pId + 1), .int .i64 q.pStation, .int .i64 q.pWave, .int .i64 tick, .int .i64 err, .int .i64 by_, .int .i64 q.pId] 43)) w6.heap.size [.int .i64 (pl.pId + 1), .int .i64 q.pStation, .int .i64 q.pWave, .int .i64 tick, .int .i64 err, .int .i64 by_, .int .i64 q.pId] := Bx.new w6 [.int .i64 (pl.pId + 1), .int .i64 q.pStation, .int .i64 q.pWave, .int .i64 tick, .int .i64 err, .int .i64 by_, .int .i64 q.pId] 43; clear ho6 hb6)
      | (go_at_call 65; refine (clonePickR xs _ ((w9.alloc (.cells #[.int .i64 (pl.pId + 1), .int .i64 q.pStation, .int .i64 q.pWave, .int .i64 tick, .int .i64 err, .int .i64 by_, .int .i64 q.pId] 43)).drew) B (LC.out.below (KB9.mono (Nat.le_trans hB z5))) (Nat.le_trans (Nat.le_trans hB z5) KB9.size) hl).mono ?_; rintro e w6 ⟨v6, rfl, ho6, hb6⟩; have B6 : Below w9.heap.size w9 w6 := KB9.trans (hb6.mono KB9.size); have r6 : w6.ownsRow w9.heap.size 43 7 v6 xs.length (xs.flatMap encPick) := Go.Joins.ownsRow_le ho6 KB9.size; have z6 := B6.size; have b6 : Bx w6 w9.heap.size [.int .i64 (pl.pId + 1), .int .i64 q.pStation, .int .i64 q.pWave, .int .i64 tick, .int .i64 err, .int .i64 by_, .int .i64 q.pId] := Bx.below (w := (w9.alloc (.cells #[.int .i64 (pl.pId + 1), .int .i64 q.pStation, .int .i64 q.pWave, .int .i64 tick, .int .i64 err, .int .i64 by_, .int .i64 q.pId] 43)).drew) (Bx.new w9 [.int .i64 (pl.pId + 1), .int .i64 q.pStation, .int .i64 q.pWave, .int .i64 tick, .int .i64 err, .int .i64 by_, .int .i64 q.pId] 43) hb6; clear ho6 hb6)
      | (refine step_append_srcK (w6) (by rfl) _ _ _ (by rfl) w9.heap.size 43 ti (.agg #[.int .i64 0, .int .i64 0, .int .i64 0, .int .i64 0, .int .i64 0, .int .i64 0, .int .i64 0]) 7 56 Try.underlying24 hi hz0 hz1 hz2 rfl (by decide) _ (xs.length) (xs.flatMap encPick) (by rfl) (r6) _ (1) _ (by rfl) (srcK_box b6 ONE.out) (by unfold maxLen; omega) (by omega) (z6) ?_; intro v7 w7 hr7 hg7 hat7; have B7 : Below w9.heap.size w9 w7 := Below.grown B6 hg7 (by first | omega | (simp; done) | (simp; omega)) (fun q hq => (r6.lt q hq).1); have r7 : w7.ownsRow w9.heap.size 43 7 v7 (xs.length + 1) (xs.flatMap encPick ++ [.int .i64 (pl.pId + 1), .int .i64 q.pStation, .int .i64 q.pWave, .int .i64 tick, .int .i64 err, .int .i64 by_, .int .i64 q.pId]) := hr7; have z7 := B7.size; clear hr7 hg7 hat7)
      | (refine step_append_srcK (w6.alloc (.cells #[.int .i64 (pl.pId + 1), .int .i64 q.pStation, .int .i64 q.pWave, .int .i64 tick, .int .i64 err, .int .i64 by_, .int .i64 q.pId] 43)) (by rfl) _ _ _ (by rfl) w9.heap.size 43 ti (.agg #[.int .i64 0, .int .i64 0, .int .i64 0, .int .i64 0, .int .i64 0, .int .i64 0, .int .i64 0]) 7 56 Try.underlying24 hi hz0 hz1 hz2 rfl (by decide) _ (xs.length) (xs.flatMap encPick) (by rfl) (r6.alloc _) _ (1) _ (by rfl) (srcK_box b6V ONE.out) (by unfold maxLen; omega) (by omega) (by first | omega | (simp; done) | (simp; omega)) ?_; intro v7 w7 hr7 hg7 hat7; have B7 : Below w9.heap.size w9 w7 := Below.grown K6 hg7 (by first | omega | (simp; done) | (simp; omega)) (fun q hq => (r6.lt q hq).1); have r7 : w7.ownsRow w9.heap.size 43 7 v7 (xs.length + 1) (xs.flatMap encPick ++ [.int .i64 (pl.pId + 1), .int .i64 q.pStation, .int .i64 q.pWave, .int .i64 tick, .int .i64 err, .int .i64 by_, .int .i64 q.pId]) := hr7; have z7 := B7.size; clear hr7 hg7 hat7))
  all_goals
    have ho7 : w7.ownsRow w9.heap.size 43 7 v7 (xs.length + 1) ((xs ++ [np]).flatMap encPick) := by
      have := r7
      rw [← HENC.out] at this
      simpa [List.flatMap_append] using this
    have O7 := Lib.hid (OwnK.of_row encPick_len (by omega) ho7)
    have HXL : Hid ((xs ++ [np]).length = xs.length + 1) := Lib.hid (by simp)
    have B7w := C5.trans (B7.mono z5)
    have hbn7 := HBN.out.below B7
    have m0 := hbn7.2 0 _ rfl
    obtain ⟨g7, cap7, rfl, hc7, hm7, hL7, -⟩ := row_some ho7 (by omega)
    have HL7 := Lib.hid O7.out.lst
    generalize hgo : goodP (xs ++ [np]) = u
    have CG := Lib.hid (implGoodP (xs ++ [np]) _ u w7 w7.heap.size HL7.out (Nat.le_refl _) (by rw [HXL.out]; omega) hgo)
    cases u with
    | false =>
      obtain ⟨e1, e2, e3⟩ := rev_not (id := id) (tick := tick) (err := err) (by_ := by_) HLK.out (by rw [← HNP.out]; exact hgo)
      have E1 := Lib.hid e1
      have E2 := Lib.hid e2
      have E3 := Lib.hid e3
      clear e1 e2 e3 hgo r7 ho7
      go_wp2_with fail
      refine CG.out.mono ?_
      rintro e w8 ⟨rfl, hb8⟩
      have B8 := B7w.trans (hb8.mono B7w.size)
      go_wp2
      go_ret3
      exact ⟨_, by rw [E1.out, E3.out]; rfl, by rw [E2.out]; exact ownK_empty encPick_len (by omega) _ 43 B8.size, B8.alloc B8.size _⟩
    | true =>
      obtain ⟨e1, e2, e3⟩ := rev_mk (id := id) (tick := tick) (err := err) (by_ := by_) HGG.out HLK.out (by rw [← HNP.out]; exact hgo)
      have E1 := Lib.hid e1
      have E2 : Hid (resRev xs id tick err by_ = xs ++ [np]) := Lib.hid (by rw [e2, HNP.out])
      have E3 : Hid (nextRev xs id tick err by_ = pl.pId + 1) := Lib.hid (by rw [e3, HLAST.out])
      clear e1 e2 e3 hgo r7 ho7
      go_wp2_with fail
      refine CG.out.mono ?_
      rintro e w8 ⟨rfl, hb8⟩
      have B8 := B7w.trans (hb8.mono B7w.size)
      have O8 := (O7.out.below hb8).mono z5 hb8.size
      have m8 := cellOf hb8 (cell_of_lt m0) m0
      go_wp2
      first
        | (go_ret3; exact ⟨_, by rw [E1.out, E3.out]; rfl, by rw [E2.out]; exact O8, B8⟩)
        | (go_quiet (fail); go_wp2; go_ret3; exact ⟨_, by rw [E1.out, E3.out]; rfl, by rw [E2.out]; exact O8.below (drewN_b (Below.refl _ _) _), drewN_b B8 _⟩)
end Go.Proofs.Ytoimoaeaejbfdaa
