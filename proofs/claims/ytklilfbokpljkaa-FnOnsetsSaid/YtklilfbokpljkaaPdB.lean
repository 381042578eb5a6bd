/- The specification's draws of lists of picks. -/
import Derived.Test.YtklilfbokpljkaaPdA
import Derived.Test.YtklilfbokpljkaaPqI
import Derived.Deep.CutBlock
import Derived.Deep.CutRange
import Derived.Deep.DeepCutAuto
namespace Go.Proofs.Ytklilfbokpljkaa
open Go.ChangeShapes Go.WideShapes Go.ChangeAt Go.RowKit Go.ChangeMaps
set_option linter.unusedSimpArgs false
set_option linter.unusedVariables false

theorem info_PickP : (Try.prog.info? 76).map (fun i => (i.zero, i.size, i.bytes)) = some (some (.agg #[.int .i64 0, .int .i64 0, .int .i64 0, .int .i64 0, .int .i64 0, .int .i64 0, .int .i64 0]), 7, 56) := by kernel_rfl
/-- A list of picks that grows beside the cursor. -/
structure Pst (w0 w : World) (B b k : Nat) (v : Value) (xs : List GPick) : Prop where
  form : ∃ g cap, v = .slice (some ⟨g, 0, none⟩) xs.length cap
  row : w.ownsRow w0.heap.size 76 7 v xs.length (xs.flatMap encPick)
  bd : ∀ s ∈ xs, BdK s
  cur : Cur w B b k
  gr : w0.grownBy w (some b)
theorem BdK.wf {s : GPick} (h : BdK s) : wfPick s := by unfold BdK at h; unfold wfPick I64; omega
theorem bdk_sz (xs : List GPick) : szsPick xs = xs.length := szsPick_split xs
theorem Pst.below {w0 w w' : World} {B b k : Nat} {v : Value} {xs : List GPick} (h : Pst w0 w B b k v xs) (hb : Below w.heap.size w w') : Pst w0 w' B b k v xs :=
  ⟨h.form, row_below h.row hb, h.bd, h.cur.keep (World.Below_grown hb) (by simp), grown_up h.gr (World.Below_grown hb) (by simp)⟩
theorem Pst.draw {w0 w w' : World} {B b k k' : Nat} {v : Value} {xs : List GPick} (h : Pst w0 w B b k v xs) (hb : b < w0.heap.size) (hg : w.grownBy w' (some b)) (hc : Cur w' B b k') : Pst w0 w' B b k' v xs :=
  ⟨h.form, kept_row h.row hg hb, h.bd, hc, h.gr.trans hg⟩
theorem Pst.mono {w0 w : World} {B b k k' : Nat} {v : Value} {xs : List GPick} (h : Pst w0 w B b k v xs) (hk : k ≤ k') : Pst w0 w B b k' v xs := ⟨h.form, h.row, h.bd, h.cur.mono hk, h.gr⟩
theorem Pst.lst {w0 w : World} {B b k : Nat} {v : Value} {xs : List GPick} (h : Pst w0 w B b k v xs) : PickL w w.heap.size v xs := (OwnK.of_row encPick_len (by omega) h.row).lst
theorem pst_snoc {w0 w w' : World} {B b k : Nat} {v v' : Value} {o : Obj} {xs : List GPick} {s : GPick} (hb : b < w0.heap.size) (hr : w.ownsRow w0.heap.size 76 7 v xs.length (xs.flatMap encPick)) (hbd : ∀ s ∈ xs, BdK s) (hs : BdK s) (hc : Cur w B b k) (hgr : w0.grownBy w (some b))
    (hr' : w'.ownsRow w0.heap.size 76 7 v' (xs.length + 1) (xs.flatMap encPick ++ encPick s)) (hg : (w.alloc o).grownBy w' v.ownBlock) : Pst w0 w' B b k v' (xs ++ [s]) := by
  have hlo : ∀ g, v.ownBlock = some g → w0.heap.size ≤ g := fun g e => (hr.lt g e).1
  have e1 : (xs ++ [s]).flatMap encPick = xs.flatMap encPick ++ encPick s := by simp [List.flatMap_append]
  have e2 : (xs ++ [s]).length = xs.length + 1 := by simp
  obtain ⟨g, cap, rfl, _⟩ := row_some hr' (by omega)
  refine ⟨⟨g, cap, by rw [e2]⟩, by rw [e1, e2]; exact hr', fun t ht => ?_, (hc.alloc _).keep hg fun g e => Nat.lt_of_lt_of_le hb (hlo g e), grown_up (hgr.trans (grown_alloc _ _ _)) hg hlo⟩
  rcases List.mem_append.1 ht with q | q
  · exact hbd t q
  · rw [List.mem_singleton] at q; rw [q]; exact hs
theorem Pst.set {w0 w : World} {B b k g n cap : Nat} {xs : List GPick} (h : Pst w0 w B b k (.slice (some ⟨g, 0, none⟩) n cap) xs) {p : Addr} (hp : w0.heap.size ≤ p.block) (hpg : p.block ≠ g) (hb : b < p.block) (u : Value) : Pst w0 (w.setCell p u) B b k (.slice (some ⟨g, 0, none⟩) n cap) xs :=
  ⟨h.form, h.row.kept (row := some p.block) ⟨rfl, rfl, rfl, by simp [World.setCell], fun i hi hne => Below.heap_setCell w p u i (fun e => hne (by rw [e]))⟩ (Or.inr (by intro e; simp only [Value.ownBlock, Option.some.injEq] at e; exact hpg e.symm)), h.bd, curSet h.cur hb u, setP h.gr hp u⟩
theorem row_base {w : World} {base base2 size n : Nat} {e : TypeId} {v : Value} {xs : List Value} (h : w.ownsRow base e size v n xs) (hb : base2 ≤ base) : w.ownsRow base2 e size v n xs :=
  ⟨h.1, h.2.imp id fun ⟨g, cap, cur, e1, h1, r⟩ => ⟨g, cap, cur, e1, Nat.le_trans hb h1, r⟩⟩
theorem pst_mk {w0 w4 w6 : World} {B b k : Nat} {v v6 : Value} {xs : List GPick} {s : GPick} (h : Pst w0 w4 B b k v xs) (hbs : BdK s) (r6 : w6.ownsRow w4.heap.size 76 7 v6 (xs.length + 1) (xs.flatMap encPick ++ encPick s)) (B6 : Below w4.heap.size w4 w6) : Pst w0 w6 B b k v6 (xs ++ [s]) := by
  have e1 : (xs ++ [s]).flatMap encPick = xs.flatMap encPick ++ encPick s := by simp [List.flatMap_append]
  have e2 : (xs ++ [s]).length = xs.length + 1 := by simp
  obtain ⟨g, cap, rfl, _⟩ := row_some r6 (by omega)
  refine ⟨⟨g, cap, by rw [e2]⟩, by rw [e1, e2]; exact row_base r6 h.gr.size, fun t ht => ?_, h.cur.keep (World.Below_grown B6) (by simp), grown_up h.gr (World.Below_grown B6) (by simp)⟩
  rcases List.mem_append.1 ht with q | q
  · exact h.bd t q
  · rw [List.mem_singleton] at q; rw [q]; exact hbs
set_option maxRecDepth 100000 in
set_option maxHeartbeats 4000000 in
theorem cur_onsets (w : World) (B b k : Nat) (h : Cur w B b k) (hk : k ≤ 500000) :
    Calls Try.prog 148 #[.pointer (some ⟨b, 0, none⟩)] w fun e w' => ∃ (v : Value) (xs : List GPick), e = .returned v ∧ xs.length ≤ 20 ∧ Pst w w' B b (k + 1000) v xs := by
  obtain ⟨ti, hi, hz0, hz1, hz2⟩ := info_parts info_PickP
  have hbw := h.lt
  have hrow0 := rowK_empty w (base := w.heap.size) 76 7 (Nat.le_refl _)
  go_enter Try.func148, Try.ntmps148
  go_wp2_with fail
  refine (cur_pick _ B b k 10 (h.alloc _) (by omega) (by omega) (by omega)).mono ?_
  rintro e w1 ⟨r, rfl, hr0, hr1, hc1, hg1⟩
  obtain ⟨m0, rfl⟩ : ∃ m : Nat, r = m := ⟨r.toNat, by omega⟩
  have hS0 : Pst w w1 B b (k + 2) (.slice (some ⟨w.heap.size, 0, none⟩) 0 0) [] := ⟨⟨_, _, rfl⟩, kept_row hrow0 hg1 hbw, by simp, hc1, (grown_alloc w _ _).trans hg1⟩
  have HS0 := Lib.hid hS0
  clear hS0 hrow0 hg1 hc1 h
  go_wp2
  go_loopw [3, 4, 5] (fun o i n wr => ∃ (m : Nat) (id : Int) (xs : List GPick), n = .int .i64 m ∧ i = .int .i64 id ∧ m ≤ 9 ∧ xs.length + m ≤ 9 ∧ (0 ≤ id ∧ id ≤ 3 * (9 - (m : Int))) ∧ Pst w wr B b (k + 2 + 60 * (9 - m)) o xs) (fun _ _ n _ => (intOf n).toNat)
  case atStart => exact ⟨m0, 0, [], rfl, rfl, by omega, by simp; omega, by omega, ⟨HS0.out.form, HS0.out.row, HS0.out.bd, HS0.out.cur.mono (by omega), HS0.out.gr⟩⟩
  case round =>
    obtain ⟨m, id, xs, rfl, rfl, hm8, hlen, ⟨hid0, hid1⟩, hS⟩ := hrel
    obtain ⟨g, cap, rfl⟩ := hS.form
    have HS := Lib.hid hS
    have zr := hS.gr.size
    have hrl := hS.row.lt g rfl
    have hlx := hS.row.1
    clear hS
    by_cases hm : 0 < m
    · have hm1 : (0 : Int) < (m : Int) := by omega
      have hm2 : (m : Int) ≤ 9 := by omega
      go_wp2_with fail
      refine (cur_pick _ B b _ 2 HS.out.cur (by omega) (by omega) (by omega)).mono ?_
      rintro e w2 ⟨r, rfl, hr0, hr1, hc2, hg2⟩
      have HS2 := Lib.hid (HS.out.draw hbw hg2 hc2)
      have z2 := hg2.size
      clear HS hc2 hg2
      go_wp2_with fail
      refine (cur_onset _ B b _ (id + 1 + r) HS2.out.cur (by omega) (by omega)).mono ?_
      rintro e w3 ⟨s, rfl, hbs, hc3, hg3⟩
      have HS3 := Lib.hid (HS2.out.draw hbw hg3 hc3)
      have z3 := hg3.size
      clear HS2 hc3 hg3
      have n3 := Bx.new w3 (encPick s) 76
      have HS4 := Lib.hid (HS3.out.below ((Below.refl _ w3).alloc (Nat.le_refl _) (.cells (encPick s).toArray 76)))
      have hb3 : w.heap.size ≤ w3.heap.size := HS3.out.gr.size
      clear HS3
      obtain ⟨gp, hgp⟩ : ∃ q, w3.heap.size = q := ⟨_, rfl⟩
      have hgb : gp ≠ b := by omega
      have hgg : gp ≠ g := by omega
      have hgw : w.heap.size ≤ gp := by omega
      rw [hgp] at n3
      go_upto_region 8 with fail
      go_cut [31] from 13 to 60 (fun c wx => ∃ y : Bool, c = .bool y ∧ (y = true → 0 < xs.length) ∧ Bx wx gp (encPick s) ∧ Pst w wx B b (k + 30 + 60 * (9 - m)) (.slice (some ⟨g, 0, none⟩) xs.length cap) xs)
      case first =>
        by_cases hx0 : 0 < xs.length
        · have hx1 : (0 : Int) < (xs.length : Int) := by omega
          go_wp2_with fail
          refine (cur_one _ B b _ 2 HS4.out.cur (by omega) (by omega) (by omega)).mono ?_
          rintro e w5 ⟨yes, rfl, hc5, hg5⟩
          have HS5 := Lib.hid (HS4.out.draw hbw hg5 hc5)
          have n5 := n3.grown hg5 (by simpa using hgb)
          clear HS4 hc5 hg5 n3
          go_wp2
          go_meet
          exact ⟨yes, rfl, fun _ => hx0, n5, HS5.out.mono (by omega)⟩
        · have hx1 : ¬ (0 : Int) < (xs.length : Int) := by omega
          go_wp2
          go_meet
          exact ⟨false, rfl, by simp, n3, HS4.out.mono (by omega)⟩
      case rest =>
        obtain ⟨y, rfl, hy, n4, hS4⟩ := hcut
        generalize wc = w4 at *
        clear HS4 n3
        have HS4 := Lib.hid hS4
        clear hS4
        go_upto_if 31 with fail
        go_cut [7] from 13 to 60 (fun _ wx => ∃ s2 : GPick, BdK s2 ∧ Bx wx gp (encPick s2) ∧ Pst w wx B b (k + 35 + 60 * (9 - m)) (.slice (some ⟨g, 0, none⟩) xs.length cap) xs)
        case first =>
          cases y with
          | false =>
            go_wp2
            go_meet
            exact ⟨s, hbs, n4, HS4.out.mono (by omega)⟩
          | true =>
            have hx0 := hy rfl
            have hx1 : (1 : Int) ≤ (xs.length : Int) := by omega
            have hx2 : (xs.length : Int) ≤ 9 := by omega
            go_wp2_with fail
            refine (cur_pick _ B b _ (xs.length : Int) HS4.out.cur (by omega) (by omega) (by omega)).mono ?_
            rintro e w5 ⟨r5, rfl, hr50, hr51, hc5, hg5⟩
            have HS5 := Lib.hid (HS4.out.draw hbw hg5 hc5)
            have n5 := n4.grown hg5 (by simpa using hgb)
            have z5 := hg5.size
            have z4 := n4.1.1
            clear HS4 hc5 hg5 n4
            obtain ⟨q, rfl⟩ : ∃ q : Nat, r5 = q := ⟨r5.toNat, by omega⟩
            obtain ⟨t, ht⟩ := get_of_lt (l := xs) (k := q) (by omega)
            have hbt := HS5.out.bd t (List.mem_of_getElem? ht)
            obtain ⟨ao, cap9, e9, -, -, -, hcc⟩ := HS5.out.lst
            simp only [Value.slice.injEq, true_and] at e9
            obtain ⟨rfl, rfl⟩ := e9
            obtain ⟨g9, off9, e10, -, hcell⟩ := hcc q t ht
            simp only [Option.some.injEq, Addr.mk.injEq, and_true] at e10
            obtain ⟨rfl, rfl⟩ := e10
            have t0 : w5.cell? ⟨g, q * 7, none⟩ = some (.int .i64 t.pId) := by have := hcell 0 _ rfl; simpa using this
            have t1 : w5.cell? ⟨g, q * 7 + 1, none⟩ = some (.int .i64 t.pStation) := by have := hcell 1 _ rfl; simpa using this
            have t2 : w5.cell? ⟨g, q * 7 + 2, none⟩ = some (.int .i64 t.pWave) := by have := hcell 2 _ rfl; simpa using this
            have t3 : w5.cell? ⟨g, q * 7 + 3, none⟩ = some (.int .i64 t.pTick) := by have := hcell 3 _ rfl; simpa using this
            have t4 : w5.cell? ⟨g, q * 7 + 4, none⟩ = some (.int .i64 t.pError) := by have := hcell 4 _ rfl; simpa using this
            have t5 : w5.cell? ⟨g, q * 7 + 5, none⟩ = some (.int .i64 t.pBy) := by have := hcell 5 _ rfl; simpa using this
            have t6 : w5.cell? ⟨g, q * 7 + 6, none⟩ = some (.int .i64 t.pAfter) := by have := hcell 6 _ rfl; simpa using this
            clear hcell hcc
            have bt := Bx.new w5 [.int .i64 t.pId, .int .i64 t.pStation, .int .i64 t.pWave, .int .i64 t.pTick, .int .i64 t.pError, .int .i64 t.pBy, .int .i64 t.pAfter] 76
            have x0 := bt.2 0 _ rfl
            have x1 := bt.2 1 _ rfl
            have x2 := bt.2 2 _ rfl
            have nA := n5.alloc (.cells #[.int .i64 t.pId, .int .i64 t.pStation, .int .i64 t.pWave, .int .i64 t.pTick, .int .i64 t.pError, .int .i64 t.pBy, .int .i64 t.pAfter] 76)
            have p1 := nA.2 1 _ rfl
            have p2 := nA.2 2 _ rfl
            have p6 := nA.2 6 _ rfl
            have pf := nA.1.2
            have ne1 : ¬ gp = w5.heap.size := by have := n5.1.1; omega
            have ne2 : ¬ w5.heap.size = gp := by omega
            have NB := Lib.hid (((nA.setAt 1 (by simp [encPick]) (.int .i64 t.pStation)).setAt 2 (by simp [encPick]) (.int .i64 t.pWave)).setAt 6 (by simp [encPick]) (.int .i64 t.pId))
            have HSB := Lib.hid ((((HS5.out.below ((Below.refl _ w5).alloc (Nat.le_refl _) (.cells #[.int .i64 t.pId, .int .i64 t.pStation, .int .i64 t.pWave, .int .i64 t.pTick, .int .i64 t.pError, .int .i64 t.pBy, .int .i64 t.pAfter] 76))).set (p := ⟨gp, 1, none⟩) hgw hgg (by simp; omega) (.int .i64 t.pStation)).set (p := ⟨gp, 2, none⟩) hgw hgg (by simp; omega) (.int .i64 t.pWave)).set (p := ⟨gp, 6, none⟩) hgw hgg (by simp; omega) (.int .i64 t.pId))
            clear n5 nA HS5 bt
            go_wp2
            go_meet
            exact ⟨⟨s.pId, t.pStation, t.pWave, s.pTick, s.pError, s.pBy, t.pId⟩, by unfold BdK at *; simp only; omega, NB.out, HSB.out.mono (by omega)⟩
        case rest =>
          obtain ⟨s2, hb2, n5, hS5⟩ := hcut
          generalize wc = w4 at *
          clear hy hbs
          have HS5 := Lib.hid hS5
          clear hS5 HS4 n4
          have c0 := n5.2 0 _ rfl
          have c1 := n5.2 1 _ rfl
          have c2 := n5.2 2 _ rfl
          have c3 := n5.2 3 _ rfl
          have c4 := n5.2 4 _ rfl
          have c5 := n5.2 5 _ rfl
          have c6 := n5.2 6 _ rfl
          go_upto_region 13 with fail
          go_cut [8] from 13 to 60 (fun v wx => w4.heap.size ≤ wx.heap.size ∧ wx.ownsRow w4.heap.size 76 7 v (xs.length + 1) (xs.flatMap encPick ++ encPick s2) ∧ Below w4.heap.size w4 wx)
          case first =>
            have z5 := n5.1.1
            have KA : Below w4.heap.size w4 (w4.alloc (.cells #[] 76)).drew := ((Below.refl _ _).alloc (Nat.le_refl _) _).drew
            have KB : Below w4.heap.size w4 (w4.alloc (.cells #[.int .i64 s2.pId, .int .i64 s2.pStation, .int .i64 s2.pWave, .int .i64 s2.pTick, .int .i64 s2.pError, .int .i64 s2.pBy, .int .i64 s2.pAfter] 76)).drew := ((Below.refl _ _).alloc (Nat.le_refl _) _).drew
            have KA1 : Below w4.heap.size w4 ((w4.alloc (.cells #[] 76)).alloc (.cells #[.int .i64 s2.pId, .int .i64 s2.pStation, .int .i64 s2.pWave, .int .i64 s2.pTick, .int .i64 s2.pError, .int .i64 s2.pBy, .int .i64 s2.pAfter] 76)).drew := (((Below.refl _ _).alloc (Nat.le_refl _) _).alloc (by first | omega | (simp; done) | (simp; omega)) _).drew
            have KB0 : Below w4.heap.size w4 ((w4.alloc (.cells #[.int .i64 s2.pId, .int .i64 s2.pStation, .int .i64 s2.pWave, .int .i64 s2.pTick, .int .i64 s2.pError, .int .i64 s2.pBy, .int .i64 s2.pAfter] 76)).alloc (.cells #[] 76)).drew := (((Below.refl _ _).alloc (Nat.le_refl _) _).alloc (by first | omega | (simp; done) | (simp; omega)) _).drew
            have rA : (w4.alloc (.cells #[] 76)).drew.ownsRow w4.heap.size 76 7 (.slice (some ⟨w4.heap.size, 0, none⟩) 0 0) 0 [] := rowK_empty w4 _ _ (Nat.le_refl _)
            have rA1 : ((w4.alloc (.cells #[] 76)).alloc (.cells #[.int .i64 s2.pId, .int .i64 s2.pStation, .int .i64 s2.pWave, .int .i64 s2.pTick, .int .i64 s2.pError, .int .i64 s2.pBy, .int .i64 s2.pAfter] 76)).drew.ownsRow w4.heap.size 76 7 (.slice (some ⟨w4.heap.size, 0, none⟩) 0 0) 0 [] := (rowK_empty w4 _ _ (Nat.le_refl _)).alloc _
            have rB0 : ((w4.alloc (.cells #[.int .i64 s2.pId, .int .i64 s2.pStation, .int .i64 s2.pWave, .int .i64 s2.pTick, .int .i64 s2.pError, .int .i64 s2.pBy, .int .i64 s2.pAfter] 76)).alloc (.cells #[] 76)).drew.ownsRow w4.heap.size 76 7 (.slice (some ⟨w4.heap.size + 1, 0, none⟩) 0 0) 0 [] := by
              have h9 : ((w4.alloc (.cells #[.int .i64 s2.pId, .int .i64 s2.pStation, .int .i64 s2.pWave, .int .i64 s2.pTick, .int .i64 s2.pError, .int .i64 s2.pBy, .int .i64 s2.pAfter] 76)).alloc (.cells #[] 76)).ownsRow w4.heap.size 76 7 (.slice (some ⟨w4.heap.size + 1, 0, none⟩) 0 0) 0 [] := by
                have := rowK_empty (w4.alloc (.cells #[.int .i64 s2.pId, .int .i64 s2.pStation, .int .i64 s2.pWave, .int .i64 s2.pTick, .int .i64 s2.pError, .int .i64 s2.pBy, .int .i64 s2.pAfter] 76)) (base := w4.heap.size) 76 7 (by first | omega | (simp; done) | (simp; omega))
                simpa using this
              exact h9
            have bA1 : Bx ((w4.alloc (.cells #[] 76)).alloc (.cells #[.int .i64 s2.pId, .int .i64 s2.pStation, .int .i64 s2.pWave, .int .i64 s2.pTick, .int .i64 s2.pError, .int .i64 s2.pBy, .int .i64 s2.pAfter] 76)).drew (w4.heap.size + 1) [.int .i64 s2.pId, .int .i64 s2.pStation, .int .i64 s2.pWave, .int .i64 s2.pTick, .int .i64 s2.pError, .int .i64 s2.pBy, .int .i64 s2.pAfter] := Bx.new1 w4 (.cells #[] 76) [.int .i64 s2.pId, .int .i64 s2.pStation, .int .i64 s2.pWave, .int .i64 s2.pTick, .int .i64 s2.pError, .int .i64 s2.pBy, .int .i64 s2.pAfter] 76
            have bB0 : Bx ((w4.alloc (.cells #[.int .i64 s2.pId, .int .i64 s2.pStation, .int .i64 s2.pWave, .int .i64 s2.pTick, .int .i64 s2.pError, .int .i64 s2.pBy, .int .i64 s2.pAfter] 76)).alloc (.cells #[] 76)).drew w4.heap.size [.int .i64 s2.pId, .int .i64 s2.pStation, .int .i64 s2.pWave, .int .i64 s2.pTick, .int .i64 s2.pError, .int .i64 s2.pBy, .int .i64 s2.pAfter] := (Bx.new w4 [.int .i64 s2.pId, .int .i64 s2.pStation, .int .i64 s2.pWave, .int .i64 s2.pTick, .int .i64 s2.pError, .int .i64 s2.pBy, .int .i64 s2.pAfter] 76).alloc _
            have Q1 := Lib.hid (row_whole HS5.out.row (onePick xs) cap)
            have ONE : Hid (∀ u ∈ ([.int .i64 s2.pId, .int .i64 s2.pStation, .int .i64 s2.pWave, .int .i64 s2.pTick, .int .i64 s2.pError, .int .i64 s2.pBy, .int .i64 s2.pAfter] : List Value), u.oneCell' = true) := Lib.hid (fun u hu => onePick [s2] u (by simpa [encPick] using hu))
            have HC0 : Hid (∀ w', Below w4.heap.size w4 w' → Below w4.heap.size w4 w' ∧ w'.cell? ⟨gp, 0, none⟩ = some (.int .i64 s2.pId) ∧ w'.cell? ⟨gp, 1, none⟩ = some (.int .i64 s2.pStation) ∧ w'.cell? ⟨gp, 2, none⟩ = some (.int .i64 s2.pWave) ∧ w'.cell? ⟨gp, 3, none⟩ = some (.int .i64 s2.pTick) ∧ w'.cell? ⟨gp, 4, none⟩ = some (.int .i64 s2.pError) ∧ w'.cell? ⟨gp, 5, none⟩ = some (.int .i64 s2.pBy) ∧ w'.cell? ⟨gp, 6, none⟩ = some (.int .i64 s2.pAfter)) := Lib.hid (fun w' qq => ⟨qq, cellOf qq z5 c0, cellOf qq z5 c1, cellOf qq z5 c2, cellOf qq z5 c3, cellOf qq z5 c4, cellOf qq z5 c5, cellOf qq z5 c6⟩)
            go_wp2
            go_region_held3 (fun w' => Below w4.heap.size w4 w' ∧ w'.cell? ⟨gp, 0, none⟩ = some (.int .i64 s2.pId) ∧ w'.cell? ⟨gp, 1, none⟩ = some (.int .i64 s2.pStation) ∧ w'.cell? ⟨gp, 2, none⟩ = some (.int .i64 s2.pWave) ∧ w'.cell? ⟨gp, 3, none⟩ = some (.int .i64 s2.pTick) ∧ w'.cell? ⟨gp, 4, none⟩ = some (.int .i64 s2.pError) ∧ w'.cell? ⟨gp, 5, none⟩ = some (.int .i64 s2.pBy) ∧ w'.cell? ⟨gp, 6, none⟩ = some (.int .i64 s2.pAfter))
              (first
                | exact HC0.out _ (Below.refl _ _).drew
                | exact HC0.out _ (by with_reducible assumption))
              (first
                | (refine step_append_srcK (((w4.alloc (.cells #[] 76)).alloc (.cells #[.int .i64 s2.pId, .int .i64 s2.pStation, .int .i64 s2.pWave, .int .i64 s2.pTick, .int .i64 s2.pError, .int .i64 s2.pBy, .int .i64 s2.pAfter] 76)).drew) (by rfl) _ _ _ (by rfl) w4.heap.size 76 ti (.agg #[.int .i64 0, .int .i64 0, .int .i64 0, .int .i64 0, .int .i64 0, .int .i64 0, .int .i64 0]) 7 56 Try.underlying63 hi hz0 hz1 hz2 rfl (by decide) _ (0) ([]) (by rfl) (rA1) _ (xs.length) _ (by rfl) (Q1.out.below KA1) (by unfold maxLen; omega) (by omega) (by first | omega | (simp; done) | (simp; omega)) ?_; intro v5 w5 hr5 hg5 hat5; have B5 : Below w4.heap.size w4 w5 := Below.grown KA1 hg5 (by first | omega | (simp; done) | (simp; omega)) (by intro q hq; cases hq; simp); have r5 : w5.ownsRow w4.heap.size 76 7 v5 xs.length (xs.flatMap encPick) := (by simpa using hr5); have z5 := B5.size; have b5 := bA1.grown (row := some w4.heap.size) hg5 (by simp); clear hr5 hg5 hat5)
                | (refine step_append_srcK (((w4.alloc (.cells #[.int .i64 s2.pId, .int .i64 s2.pStation, .int .i64 s2.pWave, .int .i64 s2.pTick, .int .i64 s2.pError, .int .i64 s2.pBy, .int .i64 s2.pAfter] 76)).alloc (.cells #[] 76)).drew) (by rfl) _ _ _ (by rfl) w4.heap.size 76 ti (.agg #[.int .i64 0, .int .i64 0, .int .i64 0, .int .i64 0, .int .i64 0, .int .i64 0, .int .i64 0]) 7 56 Try.underlying63 hi hz0 hz1 hz2 rfl (by decide) _ (0) ([]) (by rfl) (rB0) _ (xs.length) _ (by rfl) (Q1.out.below KB0) (by unfold maxLen; omega) (by omega) (by first | omega | (simp; done) | (simp; omega)) ?_; intro v5 w5 hr5 hg5 hat5; have B5 : Below w4.heap.size w4 w5 := Below.grown KB0 hg5 (by first | omega | (simp; done) | (simp; omega)) (by intro q hq; cases hq; simp); have r5 : w5.ownsRow w4.heap.size 76 7 v5 xs.length (xs.flatMap encPick) := (by simpa using hr5); have z5 := B5.size; have b5 := bB0.grown (row := some (w4.heap.size + 1)) hg5 (by simp); clear hr5 hg5 hat5)
                | (refine step_append_srcK ((w4.alloc (.cells #[] 76)).drew) (by rfl) _ _ _ (by rfl) w4.heap.size 76 ti (.agg #[.int .i64 0, .int .i64 0, .int .i64 0, .int .i64 0, .int .i64 0, .int .i64 0, .int .i64 0]) 7 56 Try.underlying63 hi hz0 hz1 hz2 rfl (by decide) _ (0) ([]) (by rfl) (rA) _ (xs.length) _ (by rfl) (Q1.out.below KA) (by unfold maxLen; omega) (by omega) (by first | omega | (simp; done) | (simp; omega)) ?_; intro v5 w5 hr5 hg5 hat5; have B5 : Below w4.heap.size w4 w5 := Below.grown KA hg5 (by first | omega | (simp; done) | (simp; omega)) (by intro q hq; cases hq; simp); have r5 : w5.ownsRow w4.heap.size 76 7 v5 xs.length (xs.flatMap encPick) := (by simpa using hr5); have z5 := B5.size; have K5 : Below w4.heap.size w4 (w5.alloc (.cells #[.int .i64 s2.pId, .int .i64 s2.pStation, .int .i64 s2.pWave, .int .i64 s2.pTick, .int .i64 s2.pError, .int .i64 s2.pBy, .int .i64 s2.pAfter] 76)) := B5.alloc B5.size _; have b5V : Bx (w5.alloc (.cells #[.int .i64 s2.pId, .int .i64 s2.pStation, .int .i64 s2.pWave, .int .i64 s2.pTick, .int .i64 s2.pError, .int .i64 s2.pBy, .int .i64 s2.pAfter] 76)) w5.heap.size [.int .i64 s2.pId, .int .i64 s2.pStation, .int .i64 s2.pWave, .int .i64 s2.pTick, .int .i64 s2.pError, .int .i64 s2.pBy, .int .i64 s2.pAfter] := Bx.new w5 [.int .i64 s2.pId, .int .i64 s2.pStation, .int .i64 s2.pWave, .int .i64 s2.pTick, .int .i64 s2.pError, .int .i64 s2.pBy, .int .i64 s2.pAfter] 76; clear hr5 hg5 hat5)
                | (refine step_append_srcK (w5) (by rfl) _ _ _ (by rfl) w4.heap.size 76 ti (.agg #[.int .i64 0, .int .i64 0, .int .i64 0, .int .i64 0, .int .i64 0, .int .i64 0, .int .i64 0]) 7 56 Try.underlying63 hi hz0 hz1 hz2 rfl (by decide) _ (xs.length) (xs.flatMap encPick) (by rfl) (r5) _ (1) _ (by rfl) (srcK_box b5 ONE.out) (by unfold maxLen; omega) (by omega) (by first | omega | (simp; done) | (simp; omega)) ?_; intro v6 w6 hr6 hg6 hat6; have B6 : Below w4.heap.size w4 w6 := Below.grown B5 hg6 (by first | omega | (simp; done) | (simp; omega)) (fun q hq => (r5.lt q hq).1); have r6 : w6.ownsRow w4.heap.size 76 7 v6 (xs.length + 1) (xs.flatMap encPick ++ [.int .i64 s2.pId, .int .i64 s2.pStation, .int .i64 s2.pWave, .int .i64 s2.pTick, .int .i64 s2.pError, .int .i64 s2.pBy, .int .i64 s2.pAfter]) := hr6; have z6 := B6.size; clear hr6 hg6 hat6)
                | (refine step_append_srcK (w5.alloc (.cells #[.int .i64 s2.pId, .int .i64 s2.pStation, .int .i64 s2.pWave, .int .i64 s2.pTick, .int .i64 s2.pError, .int .i64 s2.pBy, .int .i64 s2.pAfter] 76)) (by rfl) _ _ _ (by rfl) w4.heap.size 76 ti (.agg #[.int .i64 0, .int .i64 0, .int .i64 0, .int .i64 0, .int .i64 0, .int .i64 0, .int .i64 0]) 7 56 Try.underlying63 hi hz0 hz1 hz2 rfl (by decide) _ (xs.length) (xs.flatMap encPick) (by rfl) (r5.alloc _) _ (1) _ (by rfl) (srcK_box b5V ONE.out) (by unfold maxLen; omega) (by omega) (by first | omega | (simp; done) | (simp; omega)) ?_; intro v6 w6 hr6 hg6 hat6; have B6 : Below w4.heap.size w4 w6 := Below.grown K5 hg6 (by first | omega | (simp; done) | (simp; omega)) (fun q hq => (r5.lt q hq).1); have r6 : w6.ownsRow w4.heap.size 76 7 v6 (xs.length + 1) (xs.flatMap encPick ++ [.int .i64 s2.pId, .int .i64 s2.pStation, .int .i64 s2.pWave, .int .i64 s2.pTick, .int .i64 s2.pError, .int .i64 s2.pBy, .int .i64 s2.pAfter]) := hr6; have z6 := B6.size; clear hr6 hg6 hat6))
            all_goals
              go_wp2
              go_meet
              exact ⟨z6, r6, B6⟩
          case rest =>
            obtain ⟨z6, r6, B6⟩ := hcut
            generalize wc = w6 at *
            have HN5 := Lib.hid (pst_mk HS5.out hb2 r6 B6)
            have HO5 := Lib.hid (HS5.out.below B6)
            clear r6 B6 HS5 n5 c0 c1 c2 c3 c4 c5 c6
            have hl5 : (xs ++ [s2]).length = xs.length + 1 := by simp
            have hxl9 : xs.length ≤ 9 := by omega
            obtain ⟨ys, hys⟩ : ∃ ys, xs ++ [s2] = ys := ⟨_, rfl⟩
            rw [hys] at HN5 hl5
            clear hys hlx hrl
            obtain ⟨g5, cap5, e8⟩ := HN5.out.form
            subst e8
            obtain ⟨u, hgy⟩ : ∃ u, goodP ys = u := ⟨_, rfl⟩
            have C := Lib.hid (specGoodP ys _ u w6 _ HN5.out.lst (Nat.le_refl _) (by omega) hgy)
            have HL5 := Lib.hid hl5
            clear hgy hl5
            go_upto_region 14 with fail
            go_wp2_with fail
            refine C.out.mono ?_
            rintro e w7 ⟨rfl, hb7⟩
            have HN7 := Lib.hid (HN5.out.below hb7)
            have HO7 := Lib.hid (HO5.out.below hb7)
            clear HN5 HO5 hb7 C
            cases u with
            | true =>
              go_wp2
              go_roundw
              case rel => exact ⟨m - 1, _, ys, by rw [show ((m : Int) - 1) = ((m - 1 : Nat) : Int) by omega], rfl, by omega, by have := HL5.out; omega, by omega, HN7.out.mono (by omega)⟩
              case measure => simp [intOf]; omega
            | false =>
              go_wp2_with fail
              refine (cur_one _ B b _ 50 HN7.out.cur (by omega) (by omega) (by omega)).mono ?_
              rintro e w8 ⟨yes, rfl, hc8, hg8⟩
              have HN8 := Lib.hid (HN7.out.draw hbw hg8 hc8)
              have HO8 := Lib.hid (HO7.out.draw hbw hg8 hc8)
              clear HN7 HO7 hc8 hg8
              cases yes with
              | true =>
                go_wp2
                go_roundw
                case rel => exact ⟨m - 1, _, ys, by rw [show ((m : Int) - 1) = ((m - 1 : Nat) : Int) by omega], rfl, by omega, by have := HL5.out; omega, by omega, HN8.out.mono (by omega)⟩
                case measure => simp [intOf]; omega
              | false =>
                go_wp2
                go_roundw
                case rel => exact ⟨m - 1, _, xs, by rw [show ((m : Int) - 1) = ((m - 1 : Nat) : Int) by omega], rfl, by omega, by omega, by omega, HO8.out.mono (by omega)⟩
                case measure => simp [intOf]; omega
    · have hm1 : ¬ (0 : Int) < (m : Int) := by omega
      go_wp2_with fail
      refine (cur_one _ B b _ 24 HS.out.cur (by omega) (by omega) (by omega)).mono ?_
      rintro e w2 ⟨yes, rfl, hc2, hg2⟩
      have HS2 := Lib.hid (HS.out.draw hbw hg2 hc2)
      cases yes with
      | false =>
        clear hc2 hg2
        go_wp2
        go_ret
        exact ⟨_, xs, rfl, by omega, HS2.out.mono (by omega)⟩
      | true =>
        have hz2 := hg2.size
        have he3 := rowK_empty w2 (base := w.heap.size) 76 7 (by have := HS2.out.gr.size; omega)
        have HS3 : Hid (Pst w (w2.alloc (.cells #[] 76)) B b (k + 600) (.slice (some ⟨w2.heap.size, 0, none⟩) 0 0) []) := Lib.hid ⟨⟨_, _, rfl⟩, he3, by simp, (hc2.alloc _).mono (by omega), HS2.out.gr.trans (grown_alloc _ _ _)⟩
        clear HS HS2 hc2 hg2 he3 hrl hlx hlen hid0 hid1 hm hm1 zr
        generalize hw3 : w2.alloc (.cells #[] 76) = w3 at HS3
        go_wp2
        clear hw3 hz2 HS0
        go_loopw [3, 9] (fun o n wr => ∃ (m : Nat) (xs : List GPick), n = .int .i64 m ∧ m ≤ 13 ∧ xs.length = m ∧ Pst w wr B b (k + 600 + 10 * m) o xs) (fun _ n _ => 14 - (intOf n).toNat)
        case atStart => exact ⟨0, [], rfl, by omega, rfl, HS3.out.mono (by omega)⟩
        case round =>
          obtain ⟨m, xs, rfl, hm, rfl, hS⟩ := hrel
          obtain ⟨g, cap, rfl⟩ := hS.form
          have HS := Lib.hid hS
          clear hS
          have hm9 : (xs.length : Int) ≤ 13 := by omega
          have hm0 : (0 : Int) ≤ (xs.length : Int) := by omega
          go_wp2_with fail
          refine (cur_pick _ B b _ 2 HS.out.cur (by omega) (by omega) (by omega)).mono ?_
          rintro e w4 ⟨r, rfl, hr0, hr1, hc4, hg4⟩
          have HS4 := Lib.hid (HS.out.draw hbw hg4 hc4)
          clear HS hc4 hg4
          by_cases hlt : (xs.length : Int) < 12 + r
          · have hm7 : xs.length ≤ 12 := by omega
            have hbs : BdK (⟨(xs.length : Int) + 1, 1, 0, 5 * (xs.length : Int), 0, 0, (xs.length : Int)⟩ : GPick) := by unfold BdK; simp only; omega
            have HR5 := Lib.hid (HS4.out.row.alloc (.cells (encPick (⟨(xs.length : Int) + 1, 1, 0, 5 * (xs.length : Int), 0, 0, (xs.length : Int)⟩ : GPick)).toArray 76))
            have HSRC := Lib.hid (srcK_box (Bx.new w4 (encPick (⟨(xs.length : Int) + 1, 1, 0, 5 * (xs.length : Int), 0, 0, (xs.length : Int)⟩ : GPick)) 76) (fun u hu => by have := onePick [(⟨(xs.length : Int) + 1, 1, 0, 5 * (xs.length : Int), 0, 0, (xs.length : Int)⟩ : GPick)] u (by simpa using hu); exact this))
            have hz9 := HS4.out.gr.size
            go_wp2_with (at_builtin; refine wpList_append_srcK _ rfl _ _ 63 rfl w.heap.size 76 ti _ 7 56 Try.underlying63 hi hz0 hz1 hz2 rfl (by decide) (.slice (some ⟨g, 0, none⟩) xs.length cap) xs.length (xs.flatMap encPick) rfl HR5.out _ 1 (encPick (⟨(xs.length : Int) + 1, 1, 0, 5 * (xs.length : Int), 0, 0, (xs.length : Int)⟩ : GPick)) rfl HSRC.out (by unfold maxLen; omega) (by omega) (by simp; omega) ?_; intro v5 w5 hr5 hg5 _)
            have HN5 := Lib.hid (pst_snoc hbw HS4.out.row HS4.out.bd hbs HS4.out.cur HS4.out.gr hr5 hg5)
            obtain ⟨g5, cap5, rfl⟩ := HN5.out.form
            clear hr5 hg5 HR5 HSRC HS4
            have hl5 : (xs ++ [(⟨(xs.length : Int) + 1, 1, 0, 5 * (xs.length : Int), 0, 0, (xs.length : Int)⟩ : GPick)]).length = xs.length + 1 := by rw [List.length_append]; rfl
            go_wp2
            go_roundw
            case rel =>
              have hn := HN5.out
              rw [hl5] at hn
              exact ⟨xs.length + 1, xs ++ [(⟨(xs.length : Int) + 1, 1, 0, 5 * (xs.length : Int), 0, 0, (xs.length : Int)⟩ : GPick)], by go_num, by omega, hl5, (by first | exact hn.mono (by omega) | exact HN5.out.mono (by omega))⟩
            case measure => simp [intOf]; omega
          · go_wp2
            go_ret
            exact ⟨_, xs, rfl, by omega, HS4.out.mono (by omega)⟩
end Go.Proofs.Ytklilfbokpljkaa
