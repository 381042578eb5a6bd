/- Location by boxes: the program's tree of possible cubes. -/
import Derived.Test.YtoogofceoinniaaLpB
import Derived.Test.YtoogofceoinniaaLoT
import Derived.Test.YtoogofceoinniaaLoG
import Derived.StillTailTactics
namespace Go.Proofs.Ytoogofceoinniaa
open Go.ChangeShapes Go.WideShapes Go.ChangeAt Go.RowKit Go.ChangeMaps Go.Sort
set_option linter.unusedSimpArgs false
set_option linter.unusedVariables false
set_option linter.unusedSimpArgs false
set_option linter.unusedVariables false

/-- Everything but one block stays. -/
def Kp (g : Nat) (w w' : World) : Prop := w.grownBy w' (some g)
theorem Kp.refl (g : Nat) (w : World) : Kp g w w := ⟨rfl, rfl, rfl, Nat.le_refl _, fun _ _ _ => rfl⟩
theorem Kp.below {g : Nat} {w a b : World} (h : Kp g w a) (k : Below a.heap.size a b) : Kp g w b :=
  ⟨k.os.trans h.os, k.tape.trans h.tape, k.output.trans h.output, Nat.le_trans h.size k.size, fun i hi hne => (k.block i (Nat.lt_of_lt_of_le hi h.size)).trans (h.block i hi hne)⟩
theorem Kp.set {g : Nat} {w a : World} (h : Kp g w a) (o : Nat) (u : Value) : Kp g w (a.setCell ⟨g, o, none⟩ u) :=
  ⟨h.os, h.tape, h.output, by rw [World.size_setCell]; exact h.size, fun i hi hne => (Below.heap_setCell a ⟨g, o, none⟩ u i (fun e => hne (by rw [e]))).trans (h.block i hi hne)⟩
theorem Kp.drewN {g : Nat} {w a : World} (h : Kp g w a) (n : Nat) : Kp g w (a.drewN n) := ⟨h.os, h.tape, h.output, h.size, h.block⟩
theorem Kp.cell {g : Nat} {w a : World} (h : Kp g w a) {b o : Nat} {u : Value} (hb : b ≠ g) (hc : w.cell? ⟨b, o, none⟩ = some u) : a.cell? ⟨b, o, none⟩ = some u := by
  have := h.block b (cell_of_lt hc) (fun e => hb (Option.some.inj e))
  rw [World.cell?_of_block (a := ⟨b, o, none⟩) this]
  exact hc
theorem Kp.low {g B : Nat} {w0 w a : World} (h : Kp g w a) (k : Below B w0 w) (hB : B ≤ w.heap.size) (hg : B ≤ g) : Below B w0 a := k.grown h hB (fun q hq => by cases hq; exact hg)
theorem tree_leaf (b : GCube) (w : World) (T : TypeId) {L : Nat} (h : L ≤ w.heap.size) : TreeV (w.alloc (.cells #[.int .i64 b.pWest, .int .i64 b.pSouth, .int .i64 b.pSide, .int .i64 b.pFrom, .int .i64 b.pTo, .pointer none, .pointer none, .pointer none, .pointer none, .int .i64 1] T)) L (w.alloc (.cells #[.int .i64 b.pWest, .int .i64 b.pSouth, .int .i64 b.pSide, .int .i64 b.pFrom, .int .i64 b.pTo, .pointer none, .pointer none, .pointer none, .pointer none, .int .i64 1] T)).heap.size b.pSide 0 (.pointer (some ⟨w.heap.size, 0, none⟩)) [b] :=
  Or.inr ⟨w.heap.size, b, rfl, h, by simp, Bx.new w (encT b [nilP, nilP, nilP, nilP] 1) T, rfl, rfl⟩
theorem cut_len {xs : List GArrival} {b : GCube} {e k : Nat} {r : List GCube} (h : cutC r (someV xs e b k) 64) (he : e + 1 ≤ 9) : r.length ≤ 262144 :=
  Nat.le_trans (cutC_most h (someV_most k)) (pow_nine he)
set_option maxRecDepth 100000 in
set_option maxHeartbeats 16000000 in
theorem implTree (xs : List GArrival) (s : Int) (hok : okArs xs) (hs : okSide s) : ∀ (e : Nat) (b : GCube) (v : Value) (w : World) (B : Nat), okCb b → b.pSide = s * 2 ^ e → ArrivalL w B v xs → B ≤ w.heap.size →
    Calls Try.prog 67 #[v, aggCb b, .int .i64 s] w fun e' w' => ∃ v', e' = .returned v' ∧ ∃ r, cutC r (allV xs e b) 64 ∧ TreeV w' w.heap.size w'.heap.size s e v' r ∧ Below w.heap.size w w' := by
  intro e
  induction e with
  | zero =>
    intro b v w B hb he h hB
    have HE0 := Lib.hid (exp_zero he)
    clear he
    obtain ⟨W0, hW0⟩ : ∃ W0, w.alloc (objCb b) = W0 := ⟨_, rfl⟩
    have N0 : Below w.heap.size w W0 := hW0 ▸ (Below.refl w.heap.size w).alloc (Nat.le_refl _) _
    have bB : Bx W0 w.heap.size [.int .i64 b.pWest, .int .i64 b.pSouth, .int .i64 b.pSide, .int .i64 b.pFrom, .int .i64 b.pTo] := hW0 ▸ Bx.new w [.int .i64 b.pWest, .int .i64 b.pSouth, .int .i64 b.pSide, .int .i64 b.pFrom, .int .i64 b.pTo] 25
    have z0 := N0.size
    have b0 := bB.2 0 _ rfl
    have b1 := bB.2 1 _ rfl
    have b2 := bB.2 2 _ rfl
    have b3 := bB.2 3 _ rfl
    have b4 := bB.2 4 _ rfl
    obtain ⟨u, hu⟩ : ∃ u, canV xs b = u := ⟨_, rfl⟩
    have CC := Lib.hid (implPos xs v b u W0 B (h.below (N0.mono hB)) (Nat.le_trans hB z0) hok hb hu)
    obtain ⟨ao, cap, rfl⟩ := h.form
    clear h
    cases u with
    | false =>
      have HV := Lib.hid (allV_no hu 0)
      clear hu
      go_enter Try.func67, Try.ntmps67
      go_wp2_with fail
      refine CC.out.mono ?_
      rintro e w1 ⟨rfl, hb1⟩
      have N1 := N0.trans (hb1.mono z0)
      go_wp2
      go_ret
      exact ⟨_, rfl, [], by rw [HV.out]; exact cutC_nil _, TreeV.nil _ _ _ _ _, N1⟩
    | true =>
      have HV := Lib.hid (allV_leaf hu)
      clear hu
      go_enter Try.func67, Try.ntmps67
      go_wp2_with fail
      refine CC.out.mono ?_
      rintro e w1 ⟨rfl, hb1⟩
      have N1 := N0.trans (hb1.mono z0)
      have bB1 := bB.below hb1
      clear b0 b1 b2 b3 b4 bB
      have b0 := bB1.2 0 _ rfl
      have b1 := bB1.2 1 _ rfl
      have b2 := bB1.2 2 _ rfl
      have b3 := bB1.2 3 _ rfl
      have b4 := bB1.2 4 _ rfl
      rw [HE0.out] at b2
      have HT := Lib.hid (tree_leaf b w1 120 N1.size)
      rw [HE0.out] at HT
      go_wp2
      go_ret
      exact ⟨_, rfl, [b], by rw [HV.out]; exact cutC_self _ _, HT.out, N1.alloc N1.size _⟩
  | succ e ih =>
    intro b v w B hb he h hB
    have IH := Lib.hid ih
    obtain ⟨hn1, hh, hns⟩ := exp_half hs he
    have h9 := exp_nine hb hs he
    have HS1 := Lib.hid (fun p hp => split_ok (p := p) hb hs he hp)
    clear ih he hh
    obtain ⟨W0, hW0⟩ : ∃ W0, w.alloc (objCb b) = W0 := ⟨_, rfl⟩
    have N0 : Below w.heap.size w W0 := hW0 ▸ (Below.refl w.heap.size w).alloc (Nat.le_refl _) _
    have bB : Bx W0 w.heap.size [.int .i64 b.pWest, .int .i64 b.pSouth, .int .i64 b.pSide, .int .i64 b.pFrom, .int .i64 b.pTo] := hW0 ▸ Bx.new w [.int .i64 b.pWest, .int .i64 b.pSouth, .int .i64 b.pSide, .int .i64 b.pFrom, .int .i64 b.pTo] 25
    have z0 := N0.size
    have b0 := bB.2 0 _ rfl
    have b1 := bB.2 1 _ rfl
    have b2 := bB.2 2 _ rfl
    have b3 := bB.2 3 _ rfl
    have b4 := bB.2 4 _ rfl
    obtain ⟨u, hu⟩ : ∃ u, canV xs b = u := ⟨_, rfl⟩
    have CC := Lib.hid (implPos xs v b u W0 B (h.below (N0.mono hB)) (Nat.le_trans hB z0) hok hb hu)
    have CSP := Lib.hid (fun W => implSplit b W hb hn1)
    have HL := Lib.hid (fun W (q : Below w.heap.size w W) => h.below (q.mono hB))
    obtain ⟨ao, cap, rfl⟩ := h.form
    clear h
    cases u with
    | false =>
      have HV := Lib.hid (allV_no hu (e + 1))
      clear hu
      go_enter Try.func67, Try.ntmps67
      go_wp2_with fail
      refine CC.out.mono ?_
      rintro e9 w1 ⟨rfl, hb1⟩
      have N1 := N0.trans (hb1.mono z0)
      go_wp2
      go_ret
      exact ⟨_, rfl, [], by rw [HV.out]; exact cutC_nil _, TreeV.nil _ _ _ _ _, N1⟩
    | true =>
      have HV := Lib.hid hu
      clear hu
      go_enter Try.func67, Try.ntmps67
      go_wp2_with fail
      refine CC.out.mono ?_
      rintro e9 w1 ⟨rfl, hb1⟩
      have N1 := N0.trans (hb1.mono z0)
      have bB1 := bB.below hb1
      have z1 := N1.size
      clear b0 b1 b2 b3 b4 bB
      have b0 := bB1.2 0 _ rfl
      have b1 := bB1.2 1 _ rfl
      have b2 := bB1.2 2 _ rfl
      have b3 := bB1.2 3 _ rfl
      have b4 := bB1.2 4 _ rfl
      obtain ⟨w2, hw2⟩ : ∃ w2, w1.alloc (.cells #[.int .i64 b.pWest, .int .i64 b.pSouth, .int .i64 b.pSide, .int .i64 b.pFrom, .int .i64 b.pTo, .pointer none, .pointer none, .pointer none, .pointer none, .int .i64 0] 120) = w2 := ⟨_, rfl⟩
      have A2 : Below w1.heap.size w1 w2 := hw2 ▸ (Below.refl _ _).alloc (Nat.le_refl _) _
      have bT : Bx w2 w1.heap.size (encT b [nilP, nilP, nilP, nilP] 0) := hw2 ▸ Bx.new w1 (encT b [nilP, nilP, nilP, nilP] 0) 120
      have N2 := N1.trans (A2.mono z1)
      have bB2 := bB1.below A2
      have b0' := bB2.2 0 _ rfl
      have b1' := bB2.2 1 _ rfl
      have b2' := bB2.2 2 _ rfl
      have b3' := bB2.2 3 _ rfl
      have b4' := bB2.2 4 _ rfl
      go_wp2_with fail
      refine (CSP.out _).mono ?_
      rintro e9 w3 ⟨v3, rfl, hown, hb3⟩
      obtain ⟨pa, pc, rfl, hpc, hpm, -, hpp⟩ := hown
      have HPC := Lib.hid hpp
      have N3 := N2.trans (hb3.mono N2.size)
      have bT3 := bT.below hb3
      have z2 : w1.heap.size < w2.heap.size := bT.1.1
      have z3 := hb3.size
      have z3' := N3.size
      obtain ⟨g, hg⟩ : ∃ g, w1.heap.size = g := ⟨_, rfl⟩
      rw [hg] at bT3 z2 z1
      obtain ⟨np, hnp⟩ : ∃ np, (splitV b).length = np := ⟨_, rfl⟩
      have hnp4 : np ≤ 4 := by rw [← hnp]; exact splitV_most b
      have HNP := Lib.hid hnp
      rw [hnp] at hpc
      unfold maxLen at hpm
      have HCL := Lib.hid (fun k r (hr : cutC r (someV xs e b k) 64) => cut_len hr h9)
      have HNS := Lib.hid hns
      rw [hnp, hg]
      clear b0 b1 b2 b3 b4 b0' b1' b2' b3' b4' hW0 hw2 bB1 bB2 hb1 hb3 N1 N0 N2 A2 bT hpp hnp
      have HG := Lib.hid hg
      clear hg
      go_wp2
      go_loopw [28] (fun iv wr => ∃ (k n : Nat) (ps : List Value) (rs : List (List GCube)), k ≤ np ∧ iv = .int .i64 k ∧ Hid (rs.flatten.length = n) ∧ n ≤ 262144 ∧ Bx wr g (encT b ps n) ∧ MadeT wr (g + 1) wr.heap.size s e k ps rs ∧ Hid (cutC rs.flatten (someV xs e b k) 64) ∧ Kp g w3 wr) (fun iv _ => np - (intOf iv).toNat)
      case atStart => exact ⟨0, 0, _, _, Nat.zero_le _, rfl, Lib.hid rfl, Nat.zero_le _, bT3, MadeT.zero _ _ _ _ _, Lib.hid (by rw [someV_zero]; exact cutC_nil _), Kp.refl _ _⟩
      case round =>
        obtain ⟨k, n, ps, rs, hk, rfl, HLN, hn, bT, hmd, HCU, hkp⟩ := hrel
        have hsz := hkp.size
        have N4 := hkp.low N3 z3' z1
        have hps4 := hmd.1
        have t9 := bT.2 9 _ (encT_num hps4)
        clear bT3
        by_cases hlt : k < np
        case neg =>
          obtain rfl : k = np := by omega
          have HE2 : Hid (cutC rs.flatten (allV xs (e + 1) b) 64) := Lib.hid (by rw [← someV_all HV.out e, HNP.out]; exact HCU.out)
          have HT := Lib.hid (hmd.tree (b := b) (r := rs.flatten) rfl (by rw [HLN.out]; exact bT) HNS.out (L' := w.heap.size) z1 (by omega) (by omega))
          have hlt2 : ¬ (k : Int) < (k : Int) := by omega
          go_wp2
          go_ret
          exact ⟨_, rfl, rs.flatten, HE2.out, HT.out, N4⟩
        have hlt2 : (k : Int) < (np : Int) := by omega
        have hk0 : (0 : Int) ≤ (k : Int) := by omega
        have hk4 : (k : Int) < 4 := by omega
        obtain ⟨p, hp⟩ := get_of_lt (l := splitV b) (k := k) (by rw [HNP.out]; exact hlt)
        obtain ⟨gb, off, rfl, hgb2, hgb, -, hcell, -⟩ := HPC.out k p hp
        have HPK := Lib.hid (HS1.out p (List.mem_of_getElem? hp))
        have HSS := Lib.hid (someV_succ (xs := xs) (e := e) hp)
        have hgne : gb ≠ g := by omega
        have c0 : wr.cell? ⟨gb, off + k * 5, none⟩ = some (.int .i64 p.pWest) := hkp.cell hgne (hcell 0 _ rfl)
        have c1 : wr.cell? ⟨gb, off + k * 5 + 1, none⟩ = some (.int .i64 p.pSouth) := hkp.cell hgne (hcell 1 _ rfl)
        have c2 : wr.cell? ⟨gb, off + k * 5 + 2, none⟩ = some (.int .i64 p.pSide) := hkp.cell hgne (hcell 2 _ rfl)
        have c3 : wr.cell? ⟨gb, off + k * 5 + 3, none⟩ = some (.int .i64 p.pFrom) := hkp.cell hgne (hcell 3 _ rfl)
        have c4 : wr.cell? ⟨gb, off + k * 5 + 4, none⟩ = some (.int .i64 p.pTo) := hkp.cell hgne (hcell 4 _ rfl)
        obtain ⟨W5, hW5⟩ : ∃ W5, wr.alloc (objCb p) = W5 := ⟨_, rfl⟩
        have A5 : Below wr.heap.size wr W5 := hW5 ▸ (Below.refl _ _).alloc (Nat.le_refl _) _
        have bP : Bx W5 wr.heap.size [.int .i64 p.pWest, .int .i64 p.pSouth, .int .i64 p.pSide, .int .i64 p.pFrom, .int .i64 p.pTo] := hW5 ▸ Bx.new wr [.int .i64 p.pWest, .int .i64 p.pSouth, .int .i64 p.pSide, .int .i64 p.pFrom, .int .i64 p.pTo] 25
        have bT5 := bT.below A5
        have hm5 := hmd.below A5 (Nat.le_refl wr.heap.size)
        have hm5 := hm5.below (Below.refl _ _) A5.size
        have hk5 := hkp.below A5
        have N5 := N4.trans (A5.mono N4.size)
        have z5 := N5.size
        have t95 := bT5.2 9 _ (encT_num hps4)
        have p0 := bP.2 0 _ rfl
        have p1 := bP.2 1 _ rfl
        have p2 := bP.2 2 _ rfl
        have p3 := bP.2 3 _ rfl
        have p4 := bP.2 4 _ rfl
        have hzg : g < wr.heap.size := bT.1.1
        have hz5 := A5.size
        clear hp hcell t9 bT hmd hkp N4
        by_cases h64 : n ≤ 64
        case neg =>
          have HE2 : Hid (cutC rs.flatten (allV xs (e + 1) b) 64) := Lib.hid (cut_some HV.out HCU.out (by rw [HLN.out]; omega))
          have HT := Lib.hid (hm5.tree (b := b) (r := rs.flatten) rfl (by rw [HLN.out]; exact bT5) HNS.out (L' := w.heap.size) z1 (by omega) (by omega))
          have h65 : (64 : Int) < (n : Int) := by omega
          clear A5
          go_wp2
          go_ret
          exact ⟨_, rfl, rs.flatten, HE2.out, HT.out, N5⟩
        have h65 : ¬ (64 : Int) < (n : Int) := by omega
        have CI := Lib.hid (IH.out p _ W5 B HPK.out.1 HPK.out.2 (HL.out W5 N5) (Nat.le_trans hB N5.size))
        go_wp2_with fail
        refine CI.out.mono ?_
        rintro e9 w6 ⟨v6, rfl, r, hcut, htree, hb6⟩
        have hk6 := hk5.below hb6
        have bT6 := bT5.below hb6
        have hm6 := hm5.below hb6 hb6.size
        have z6 := hb6.size
        have HCU2 : Hid (cutC (rs.flatten ++ r) (someV xs e b (k + 1)) 64) := Lib.hid (by rw [HSS.out]; exact cutC_app HCU.out (by rw [HLN.out]; exact h64) hcut)
        have HOP := htree.open
        have HTR := Lib.hid (htree.mono (L' := g + 1) (B' := w6.heap.size) (by omega) (Nat.le_refl _))
        clear hm5 c0 c1 c2 c3 c4 p0 p1 p2 p3 p4 hW5 bT5 hk5 t95 hb6 A5 bP hcut htree
        rcases HOP with ⟨h9v, hr⟩ | ⟨g6, rfl, hg6, hg6b, hc9⟩
        case inl =>
          obtain rfl : v6 = .pointer none := h9v
          have HCU3 : Hid (cutC rs.flatten (someV xs e b (k + 1)) 64) := Lib.hid (by have := HCU2.out; rwa [hr, List.append_nil] at this)
          clear hr
          go_wp2
          go_roundw
          case rel => exact ⟨k + 1, n, ps, rs, by omega, by go_num, HLN, hn, bT6, hm6.skip, HCU3, hk6⟩
          case measure => simp [intOf]; omega
        obtain ⟨q, hq⟩ := get_of_lt (l := ps) (k := k) (by rw [hps4]; omega)
        obtain ⟨m, hm⟩ : ∃ m, r.length = m := ⟨_, rfl⟩
        rw [hm] at hc9
        have t5 := bT6.2 _ _ (encT_part hps4 hq)
        have t9 := bT6.2 _ _ (encT_num hps4)
        have tf := bT6.1.2
        have HM := Lib.hid hm
        have hk4' : k < 4 := by omega
        obtain ⟨W7, hW7⟩ : ∃ W7, w6.setCell ⟨g, 5 + k, none⟩ (.pointer (some ⟨g6, 0, none⟩)) = W7 := ⟨_, rfl⟩
        have bT7 : Bx W7 g (encT b (ps.set k (.pointer (some ⟨g6, 0, none⟩))) n) := by
          have := bT6.set (5 + k) (by rw [encT_len hps4]; omega) (.pointer (some ⟨g6, 0, none⟩))
          rw [hW7, encT_setP hps4 hk4'] at this
          exact this
        have hm7 : MadeT W7 (g + 1) w6.heap.size s e k ps rs := hW7 ▸ hm6.set (p := ⟨g, 5 + k, none⟩) (Nat.lt_succ_self g) _
        have ht7 : TreeV W7 (g + 1) w6.heap.size s e (.pointer (some ⟨g6, 0, none⟩)) r := hW7 ▸ HTR.out.set (p := ⟨g, 5 + k, none⟩) (Nat.lt_succ_self g) _
        have hk7 : Kp g w3 W7 := hW7 ▸ hk6.set _ _
        have z7 : W7.heap.size = w6.heap.size := by rw [← hW7, World.size_setCell]
        have hc97 : W7.cell? ⟨g6, 9, none⟩ = some (.int .i64 m) := by rw [← hW7, World.cell?_setCell_other _ _ _ _ (by first | omega | (simp; done) | (simp; omega))]; exact hc9
        obtain ⟨hput, hflat⟩ := hm7.put hk4' ht7
        have hps9 : (ps.set k (.pointer (some ⟨g6, 0, none⟩))).length = 4 := by rw [List.length_set]; exact hps4
        have t97 := bT7.2 _ _ (encT_num hps9)
        have tf7 := bT7.1.2
        have HPUT := Lib.hid hput
        have HCU3 : Hid (cutC (rs.set k r).flatten (someV xs e b (k + 1)) 64) := Lib.hid (by rw [hflat]; exact HCU2.out)
        have HLN3 : Hid ((rs.set k r).flatten.length = n + m) := Lib.hid (by rw [hflat, List.length_append, HLN.out, HM.out])
        have hnm : n + m ≤ 262144 := by have := HCL.out (k + 1) _ HCU3.out; rw [HLN3.out] at this; exact this
        have q1 : IntKind.i64.wrap ((n : Int) + (m : Int)) = (n : Int) + (m : Int) := IntWalk.i64_in _ (by omega)
        have q2 : wrap64 ((n : Int) + (m : Int)) = (n : Int) + (m : Int) := by unfold wrap64; omega
        clear hq hm
        go_wp2
        clear hm6 hm7 ht7 hput hflat bT6 hk6 hc9 hW7 t5 t9 tf HTR HCU2
        have t97a : (W7.drew).cell? ⟨g, 9, none⟩ = some (.int .i64 n) := t97
        have c97a : (W7.drew).cell? ⟨g6, 9, none⟩ = some (.int .i64 m) := hc97
        have t97b : ({ W7 with drawn := W7.drawn + 1 } : World).cell? ⟨g, 9, none⟩ = some (.int .i64 n) := t97
        have c97b : ({ W7 with drawn := W7.drawn + 1 } : World).cell? ⟨g6, 9, none⟩ = some (.int .i64 m) := hc97
        go_still_tail 11, (by kernel_rfl)
        change wpList _ _ _ _ _ (W7.drewN 1)
        have bT8 : Bx (W7.drewN 1) g (encT b (ps.set k (.pointer (some ⟨g6, 0, none⟩))) n) := bT7
        have hm8 : MadeT (W7.drewN 1) (g + 1) w6.heap.size s e (k + 1) (ps.set k (.pointer (some ⟨g6, 0, none⟩))) (rs.set k r) := MadeT.keep (w := W7) (w' := W7.drewN 1) HPUT.out (fun _ _ _ _ hx => Bx.drewN hx 1) (Nat.le_refl _)
        have hk8 : Kp g w3 (W7.drewN 1) := hk7.drewN 1
        have z8 : (W7.drewN 1).heap.size = w6.heap.size := z7
        clear bT7 hk7 z7 t97 tf7 t97a c97a t97b c97b hc97 HPUT
        generalize W7.drewN 1 = W8 at *
        have t98 := bT8.2 _ _ (encT_num hps9)
        have tf8 := bT8.1.2
        have bT9 : Bx (W8.setCell ⟨g, 9, none⟩ (.int .i64 ((n : Int) + (m : Int)))) g (encT b (ps.set k (.pointer (some ⟨g6, 0, none⟩))) ((n : Int) + (m : Int))) := by
          have := bT8.set 9 (by rw [encT_len hps9]; omega) (.int .i64 ((n : Int) + (m : Int)))
          rw [encT_setN hps9] at this
          exact this
        have hm9 := hm8.set (p := ⟨g, 9, none⟩) (Nat.lt_succ_self g) (.int .i64 ((n : Int) + (m : Int)))
        have hk9 := hk8.set 9 (.int .i64 ((n : Int) + (m : Int)))
        have z9 : (W8.setCell ⟨g, 9, none⟩ (.int .i64 ((n : Int) + (m : Int)))).heap.size = w6.heap.size := by rw [World.size_setCell]; exact z8
        obtain ⟨W9, hW9⟩ : ∃ W9, W8.setCell ⟨g, 9, none⟩ (.int .i64 ((n : Int) + (m : Int))) = W9 := ⟨_, rfl⟩
        rw [hW9] at bT9 hm9 hk9 z9
        have HM9 := Lib.hid hm9
        have HB9 := Lib.hid bT9
        clear bT8 hm8 hk8 z8 hm9 bT9
        go_wp2_with fail
        go_roundw
        case rel => exact ⟨k + 1, n + m, _, _, by omega, by go_num, HLN3, hnm, (by have := HB9.out; rwa [← Int.natCast_add] at this), (by rw [z9]; exact HM9.out), HCU3, hk9⟩
        case measure => simp [intOf]; omega
end Go.Proofs.Ytoogofceoinniaa
