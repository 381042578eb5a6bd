/- Picks: what replaced what, an iterator. -/
import Derived.Test.YtklilfbokpljkaaPqT
import Derived.Test.YtklilfbokpljkaaRnd
import Derived.RangeFuncNested
import Derived.RangeFuncBound
import Derived.RangeFuncCalls
import Derived.RangeFuncLeaves
import Derived.RangeFuncBox
import Derived.Shelf.Abstract
import Derived.Shelf.RegionOpen
import Derived.WalkKit
import Derived.OwnWalkIn
import Derived.TacticsInMore
import Derived.LoopNIn
import Derived.LoopIn
import Derived.Maps.AppendAt
import Derived.Sort.QuietIn
import Derived.Maps.OwnIn
namespace Go.Proofs.Ytklilfbokpljkaa
open Go.ChangeShapes Go.WideShapes Go.ChangeAt Go.RowKit Go.ChangeMaps Go.Sort Go.Shelf
set_option linter.unusedSimpArgs false
set_option linter.unusedVariables false

attribute [local go_sem] Oper.semAt_some

/-- A pick that replaces one, and that one; both valid. -/
abbrev RPk := {r : GPick × GPick // oneP r.1 ∧ oneP r.2}
def encR (r : RPk) : Array Value := #[.agg #[.int .i64 r.1.1.pId, .int .i64 r.1.1.pStation, .int .i64 r.1.1.pWave, .int .i64 r.1.1.pTick, .int .i64 r.1.1.pError, .int .i64 r.1.1.pBy, .int .i64 r.1.1.pAfter], .agg #[.int .i64 r.1.2.pId, .int .i64 r.1.2.pStation, .int .i64 r.1.2.pWave, .int .i64 r.1.2.pTick, .int .i64 r.1.2.pError, .int .i64 r.1.2.pBy, .int .i64 r.1.2.pAfter]]
def KeepsR (L Bl : Nat) (W W' : World) : Prop := Below L W W' ∧ W'.cell? ⟨Bl, 0, none⟩ = W.cell? ⟨Bl, 0, none⟩
theorem revs_lenk (xs : List GPick) (k : Nat) : (revsP xs k).length ≤ k := by
  unfold revsP
  have := List.length_filterMap_le (pairP xs) (xs.take k)
  rw [List.length_take] at this
  omega
theorem snoc_val {ys : List RPk} {l : List (GPick × GPick)} {r : RPk} (h : ys.map Subtype.val = l) : (ys ++ [r]).map Subtype.val = l ++ [r.1] := by rw [List.map_append, h]; rfl
set_option maxRecDepth 100000 in
set_option maxHeartbeats 4000000 in
theorem revs_in (m : Nat) (hm : 1 ≤ m) (l Bl L B : Nat) (xs : List GPick) (v : Value) (hok : okP xs) (hBL : B ≤ L) (J Jx : List RPk → World → Prop)
    (hY : ∀ pre x W, J pre W → pre.length < xs.length → YieldAt Fence.wide (m - 1) Try.prog l (encR x) W fun e W' =>
      (e = .returned (.bool true) ∧ J (pre ++ [x]) W' ∧ KeepsR L Bl W W') ∨ (e = .returned (.bool false) ∧ Jx (pre ++ [x]) W'))
    (W : World) (hLW : L ≤ W.heap.size) (hBlW : Bl < W.heap.size) (hJ : AbidesFrom W.heap.size J) (hL : PickL W B v xs) (hc : W.cell? ⟨Bl, 0, none⟩ = some v) (h0 : J [] W) :
    CallsIn Fence.wide m Try.prog 172 #[.func (.yield l) #[] #[], .pointer (some ⟨Bl, 0, none⟩)] W fun e W' => (∃ v, e = .returned v) ∧
      ((∃ ys, ys.map Subtype.val = revsP xs xs.length ∧ J ys W') ∨ (∃ pre, True ∧ Jx pre W')) := by
  refine callsIn_of_wp Try.func172 rfl trivial ?_ rfl
  simp only [Try.ntmps172, List.size_toArray, List.length_cons, List.length_nil, Nat.reduceAdd, Nat.reduceSub, Array.replicate_succ, Array.replicate_zero, List.push_toArray, List.append_toArray, List.nil_append, List.cons_append]
  have HL := Lib.hid hL
  obtain ⟨ao, cap, rfl, hcap, hmax, hnn, hcc⟩ := hL
  unfold maxLen at hmax
  have HC := Lib.hid hcc
  have HOK := Lib.hid hok
  have hl12 := hok.1
  have t64 : Fence.wide.fn 158 := trivial
  clear hcc hnn hok
  gi_wp2
  gi_loopw [9] (fun i wr => ∃ (k : Nat) (pre : List RPk), k ≤ xs.length ∧ i = .int .i64 k ∧ Hid (pre.map Subtype.val = revsP xs k) ∧ Hid (J pre wr) ∧ Below L W wr ∧ wr.cell? ⟨Bl, 0, none⟩ = some (.slice ao xs.length cap))
    (fun i _ => xs.length - (intOf i).toNat)
  case atStart => exact ⟨0, [], Nat.zero_le _, rfl, Lib.hid (by rw [revs_zero]; rfl), Lib.hid h0, Below.refl _ _, hc⟩
  case round =>
    obtain ⟨k, pre, hk, rfl, HPRE, HJK, hbl, hcl⟩ := hrel
    have hsz := hbl.size
    have hblt := cell_of_lt hcl
    by_cases hlt : k < xs.length
    case neg =>
      obtain rfl : k = xs.length := by omega
      gi_wp2
      go_end0
      exact ⟨⟨_, rfl⟩, .inl ⟨_, HPRE.out, HJK.out⟩⟩
    have hk1 : (k : Int) < (xs.length : Int) := by omega
    have hk0 : (0 : Int) ≤ (k : Int) := by omega
    obtain ⟨p, hp⟩ := get_of_lt hlt
    obtain ⟨b, off, rfl, hb, hcell⟩ := HC.out k p hp
    have HBL : Hid (Below B W wr) := Lib.hid (hbl.mono hBL)
    have c0 : wr.cell? ⟨b, off + k * 7, none⟩ = some (.int .i64 p.pId) := cellOf HBL.out hb (hcell 0 _ rfl)
    have c1 : wr.cell? ⟨b, off + k * 7 + 1, none⟩ = some (.int .i64 p.pStation) := cellOf HBL.out hb (hcell 1 _ rfl)
    have c2 : wr.cell? ⟨b, off + k * 7 + 2, none⟩ = some (.int .i64 p.pWave) := cellOf HBL.out hb (hcell 2 _ rfl)
    have c3 : wr.cell? ⟨b, off + k * 7 + 3, none⟩ = some (.int .i64 p.pTick) := cellOf HBL.out hb (hcell 3 _ rfl)
    have c4 : wr.cell? ⟨b, off + k * 7 + 4, none⟩ = some (.int .i64 p.pError) := cellOf HBL.out hb (hcell 4 _ rfl)
    have c5 : wr.cell? ⟨b, off + k * 7 + 5, none⟩ = some (.int .i64 p.pBy) := cellOf HBL.out hb (hcell 5 _ rfl)
    have c6 : wr.cell? ⟨b, off + k * 7 + 6, none⟩ = some (.int .i64 p.pAfter) := cellOf HBL.out hb (hcell 6 _ rfl)
    have HP := Lib.hid hp
    have hplen : pre.length ≤ k := by
      have := congrArg List.length HPRE.out
      rw [List.length_map] at this
      rw [this]; exact revs_lenk xs k
    clear hp hcell
    have N1 := Lib.hid (below_cell (w := wr) (Nat.le_refl _) (.cells #[.int .i64 p.pId, .int .i64 p.pStation, .int .i64 p.pWave, .int .i64 p.pTick, .int .i64 p.pError, .int .i64 p.pBy, .int .i64 p.pAfter] 76))
    have bx : Bx (wr.alloc (.cells #[.int .i64 p.pId, .int .i64 p.pStation, .int .i64 p.pWave, .int .i64 p.pTick, .int .i64 p.pError, .int .i64 p.pBy, .int .i64 p.pAfter] 76)) wr.heap.size (encPick p) := Bx.new wr (encPick p) 76
    have HLw := Lib.hid (((HL.out.below HBL.out).below (N1.out.mono (by omega))))
    cases hlk : lookP xs p.pAfter with
    | none =>
      have CW := Lib.hid (implWithNo xs _ p.pAfter (wr.alloc (.cells #[.int .i64 p.pId, .int .i64 p.pStation, .int .i64 p.pWave, .int .i64 p.pTick, .int .i64 p.pError, .int .i64 p.pBy, .int .i64 p.pAfter] 76)) B HLw.out (by first | omega | (simp; done) | (simp; omega)) (by omega) hlk)
      have HP2 := Lib.hid ((HPRE.out).trans (revs_none HP.out hlk).symm)
      clear hlk
      have e6 : (wr.alloc (.cells #[.int .i64 p.pId, .int .i64 p.pStation, .int .i64 p.pWave, .int .i64 p.pTick, .int .i64 p.pError, .int .i64 p.pBy, .int .i64 p.pAfter] 76)).cell? ⟨wr.heap.size, 6, none⟩ = some (.int .i64 p.pAfter) := bx.2 6 _ rfl
      gi_wp2_with (gi_at_call 158; refine (callsIn_wide.2 CW.out).mono ?_; rintro e w3 ⟨rfl, hb3⟩)
      have M3 : Below wr.heap.size wr w3 := N1.out.trans (hb3.mono N1.out.size)
      have HB2 := Lib.hid (hbl.trans ((M3.alloc M3.size (.cells #[.int .i64 zeroPick.pId, .int .i64 zeroPick.pStation, .int .i64 zeroPick.pWave, .int .i64 zeroPick.pTick, .int .i64 zeroPick.pError, .int .i64 zeroPick.pBy, .int .i64 zeroPick.pAfter] 76)).mono (by omega)))
      have HJ2 := Lib.hid (hJ pre wr _ none HJK.out (World.Below_grown (M3.alloc M3.size (.cells #[.int .i64 zeroPick.pId, .int .i64 zeroPick.pStation, .int .i64 zeroPick.pWave, .int .i64 zeroPick.pTick, .int .i64 zeroPick.pError, .int .i64 zeroPick.pBy, .int .i64 zeroPick.pAfter] 76))) (fun r e => by cases e))
      have hcl2 := cellOf (B := wr.heap.size) (M3.alloc M3.size (.cells #[.int .i64 zeroPick.pId, .int .i64 zeroPick.pStation, .int .i64 zeroPick.pWave, .int .i64 zeroPick.pTick, .int .i64 zeroPick.pError, .int .i64 zeroPick.pBy, .int .i64 zeroPick.pAfter] 76)) hblt hcl
      refine ⟨(fun f h => by cases h), ?_⟩
      gi_wp2
      go_roundw
      case rel => exact ⟨k + 1, pre, by omega, by go_num, HP2, HJ2, HB2.out, hcl2⟩
      case measure => simp [intOf]; omega
    | some q =>
      have CW := Lib.hid (implWithYes xs _ p.pAfter q (wr.alloc (.cells #[.int .i64 p.pId, .int .i64 p.pStation, .int .i64 p.pWave, .int .i64 p.pTick, .int .i64 p.pError, .int .i64 p.pBy, .int .i64 p.pAfter] 76)) B HLw.out (by first | omega | (simp; done) | (simp; omega)) (by omega) hlk)
      have HP2 := Lib.hid (snoc_val (r := ⟨(p, q), ⟨okP_mem HOK.out (List.mem_of_getElem? HP.out), okP_mem HOK.out (look_mem hlk).1⟩⟩) HPRE.out)
      have HREV := Lib.hid (revs_some HP.out hlk)
      have e6 : (wr.alloc (.cells #[.int .i64 p.pId, .int .i64 p.pStation, .int .i64 p.pWave, .int .i64 p.pTick, .int .i64 p.pError, .int .i64 p.pBy, .int .i64 p.pAfter] 76)).cell? ⟨wr.heap.size, 6, none⟩ = some (.int .i64 p.pAfter) := bx.2 6 _ rfl
      gi_wp2_with (
        gi_at_call 158
        refine (callsIn_wide.2 CW.out).mono ?_
        rintro e w3 ⟨rfl, hb3⟩
        have M3 : Below wr.heap.size wr w3 := N1.out.trans (hb3.mono N1.out.size)
        have M4 : Below wr.heap.size wr (w3.alloc (.cells #[.int .i64 q.pId, .int .i64 q.pStation, .int .i64 q.pWave, .int .i64 q.pTick, .int .i64 q.pError, .int .i64 q.pBy, .int .i64 q.pAfter] 76)) := M3.alloc M3.size _
        have bp4 : Bx (w3.alloc (.cells #[.int .i64 q.pId, .int .i64 q.pStation, .int .i64 q.pWave, .int .i64 q.pTick, .int .i64 q.pError, .int .i64 q.pBy, .int .i64 q.pAfter] 76)) wr.heap.size (encPick p) := (bx.below hb3).alloc _
        have bq4 : Bx (w3.alloc (.cells #[.int .i64 q.pId, .int .i64 q.pStation, .int .i64 q.pWave, .int .i64 q.pTick, .int .i64 q.pError, .int .i64 q.pBy, .int .i64 q.pAfter] 76)) w3.heap.size (encPick q) := Bx.new w3 (encPick q) 76
        have d0 : (w3.alloc (.cells #[.int .i64 q.pId, .int .i64 q.pStation, .int .i64 q.pWave, .int .i64 q.pTick, .int .i64 q.pError, .int .i64 q.pBy, .int .i64 q.pAfter] 76)).cell? ⟨wr.heap.size, 0, none⟩ = some (.int .i64 p.pId) := bp4.2 0 _ rfl
        have d1 : (w3.alloc (.cells #[.int .i64 q.pId, .int .i64 q.pStation, .int .i64 q.pWave, .int .i64 q.pTick, .int .i64 q.pError, .int .i64 q.pBy, .int .i64 q.pAfter] 76)).cell? ⟨wr.heap.size, 1, none⟩ = some (.int .i64 p.pStation) := bp4.2 1 _ rfl
        have d2 : (w3.alloc (.cells #[.int .i64 q.pId, .int .i64 q.pStation, .int .i64 q.pWave, .int .i64 q.pTick, .int .i64 q.pError, .int .i64 q.pBy, .int .i64 q.pAfter] 76)).cell? ⟨wr.heap.size, 2, none⟩ = some (.int .i64 p.pWave) := bp4.2 2 _ rfl
        have d3 : (w3.alloc (.cells #[.int .i64 q.pId, .int .i64 q.pStation, .int .i64 q.pWave, .int .i64 q.pTick, .int .i64 q.pError, .int .i64 q.pBy, .int .i64 q.pAfter] 76)).cell? ⟨wr.heap.size, 3, none⟩ = some (.int .i64 p.pTick) := bp4.2 3 _ rfl
        have d4 : (w3.alloc (.cells #[.int .i64 q.pId, .int .i64 q.pStation, .int .i64 q.pWave, .int .i64 q.pTick, .int .i64 q.pError, .int .i64 q.pBy, .int .i64 q.pAfter] 76)).cell? ⟨wr.heap.size, 4, none⟩ = some (.int .i64 p.pError) := bp4.2 4 _ rfl
        have d5 : (w3.alloc (.cells #[.int .i64 q.pId, .int .i64 q.pStation, .int .i64 q.pWave, .int .i64 q.pTick, .int .i64 q.pError, .int .i64 q.pBy, .int .i64 q.pAfter] 76)).cell? ⟨wr.heap.size, 5, none⟩ = some (.int .i64 p.pBy) := bp4.2 5 _ rfl
        have d6 : (w3.alloc (.cells #[.int .i64 q.pId, .int .i64 q.pStation, .int .i64 q.pWave, .int .i64 q.pTick, .int .i64 q.pError, .int .i64 q.pBy, .int .i64 q.pAfter] 76)).cell? ⟨wr.heap.size, 6, none⟩ = some (.int .i64 p.pAfter) := bp4.2 6 _ rfl
        have r0 : (w3.alloc (.cells #[.int .i64 q.pId, .int .i64 q.pStation, .int .i64 q.pWave, .int .i64 q.pTick, .int .i64 q.pError, .int .i64 q.pBy, .int .i64 q.pAfter] 76)).cell? ⟨w3.heap.size, 0, none⟩ = some (.int .i64 q.pId) := bq4.2 0 _ rfl
        have r1 : (w3.alloc (.cells #[.int .i64 q.pId, .int .i64 q.pStation, .int .i64 q.pWave, .int .i64 q.pTick, .int .i64 q.pError, .int .i64 q.pBy, .int .i64 q.pAfter] 76)).cell? ⟨w3.heap.size, 1, none⟩ = some (.int .i64 q.pStation) := bq4.2 1 _ rfl
        have r2 : (w3.alloc (.cells #[.int .i64 q.pId, .int .i64 q.pStation, .int .i64 q.pWave, .int .i64 q.pTick, .int .i64 q.pError, .int .i64 q.pBy, .int .i64 q.pAfter] 76)).cell? ⟨w3.heap.size, 2, none⟩ = some (.int .i64 q.pWave) := bq4.2 2 _ rfl
        have r3 : (w3.alloc (.cells #[.int .i64 q.pId, .int .i64 q.pStation, .int .i64 q.pWave, .int .i64 q.pTick, .int .i64 q.pError, .int .i64 q.pBy, .int .i64 q.pAfter] 76)).cell? ⟨w3.heap.size, 3, none⟩ = some (.int .i64 q.pTick) := bq4.2 3 _ rfl
        have r4 : (w3.alloc (.cells #[.int .i64 q.pId, .int .i64 q.pStation, .int .i64 q.pWave, .int .i64 q.pTick, .int .i64 q.pError, .int .i64 q.pBy, .int .i64 q.pAfter] 76)).cell? ⟨w3.heap.size, 4, none⟩ = some (.int .i64 q.pError) := bq4.2 4 _ rfl
        have r5 : (w3.alloc (.cells #[.int .i64 q.pId, .int .i64 q.pStation, .int .i64 q.pWave, .int .i64 q.pTick, .int .i64 q.pError, .int .i64 q.pBy, .int .i64 q.pAfter] 76)).cell? ⟨w3.heap.size, 5, none⟩ = some (.int .i64 q.pBy) := bq4.2 5 _ rfl
        have r6 : (w3.alloc (.cells #[.int .i64 q.pId, .int .i64 q.pStation, .int .i64 q.pWave, .int .i64 q.pTick, .int .i64 q.pError, .int .i64 q.pBy, .int .i64 q.pAfter] 76)).cell? ⟨w3.heap.size, 6, none⟩ = some (.int .i64 q.pAfter) := bq4.2 6 _ rfl
        have HJ4 := hJ pre wr _ none HJK.out (World.Below_grown M4) (fun r e => by cases e)
        obtain ⟨fn, tmps, assign, body, hy, hR⟩ := hY pre ⟨(p, q), ⟨okP_mem HOK.out (List.mem_of_getElem? HP.out), okP_mem HOK.out (look_mem hlk).1⟩⟩ _ HJ4 (by omega)
        simp only [encR] at hy
        clear HJ4)
      have HM4 := Lib.hid M4
      have HP3 := Lib.hid (HP2.out.trans HREV.out.symm)
      have hcl4 := cellOf (B := wr.heap.size) M4 hblt hcl
      clear bp4 bq4 M3 M4 d0 d1 d2 d3 d4 d5 d6 r0 r1 r2 r3 r4 r5 r6 bx hb3 e6
      refine hR.mono ?_
      rintro e W5 (⟨rfl, hJ5, hk5⟩ | ⟨rfl, hJx5⟩)
      · have hb5 := hbl.trans ((HM4.out.mono (by omega)).trans hk5.1)
        have hcl5 := hk5.2.trans hcl4
        have HJ5 := Lib.hid hJ5
        clear hJ5 hk5
        gi_wp2
        go_roundw
        case rel => exact ⟨k + 1, _, by omega, by go_num, HP3, HJ5, hb5, hcl5⟩
        case measure => simp [intOf]; omega
      · gi_wp2
        refine bodyPost_ret (results_none rfl _ _ _) rfl ?_
        exact ⟨⟨_, rfl⟩, .inr ⟨_, trivial, hJx5⟩⟩
end Go.Proofs.Ytklilfbokpljkaa
