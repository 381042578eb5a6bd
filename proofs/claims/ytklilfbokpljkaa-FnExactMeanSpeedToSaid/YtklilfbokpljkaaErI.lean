/- Models of the ground: the program's times in a model. -/
import Derived.Test.YtklilfbokpljkaaErH
import Derived.Deep.CutBlock
import Derived.Deep.CutRange
import Derived.Deep.DeepCutAuto
namespace Go.Proofs.Ytklilfbokpljkaa
open Go.ChangeShapes Go.WideShapes Go.ChangeAt Go.RowKit Go.ChangeMaps Go.Sort
set_option linter.unusedSimpArgs false
set_option linter.unusedVariables false
set_option linter.unusedSimpArgs false
set_option linter.unusedVariables false

theorem tvG_zero (l P Q : Int) (xs : List GEarth) : tvG l P Q xs 0 0 = [.int .i64 l, .int .i64 P, .int .i64 0, .int .i64 0, .int .i64 0, .int .i64 0, .int .i64 0, .int .i64 0, .int .i64 0, .int .i64 0, .int .i64 0, .int .i64 0] := by simp [tvG, fkU, topU]
theorem Bx.putsE {w : World} {b : Nat} {cs ds : List Value} (h : Bx w b cs) (hl : ds.length = cs.length) : Bx (putCells w b 0 ds 0) b ds := by
  refine ⟨⟨by rw [putCells_size]; exact h.1.1, fun i => by rw [putCells_frozen]; exact h.1.2 i⟩, fun i c hi => ?_⟩
  have := putCells_at b 0 ds w 0 (fun j hj => by
    obtain ⟨c', hc'⟩ := get_of_lt (l := cs) (k := j) (by omega)
    rw [show 0 + (0 + j) = j by omega, h.2 j c' hc']; rfl) i c hi
  rwa [show 0 + (0 + i) = i by omega] at this
def z12 : List Value := [.int .i64 0, .int .i64 0, .int .i64 0, .int .i64 0, .int .i64 0, .int .i64 0, .int .i64 0, .int .i64 0, .int .i64 0, .int .i64 0, .int .i64 0, .int .i64 0]
theorem tvG_set1 (l P P' Q : Int) (xs : List GEarth) (m m' : Nat) : (tvG l P Q xs m m').set 1 (.int .i64 P') = tvG l P' Q xs m m' := rfl
theorem tvG_len (l P Q : Int) (xs : List GEarth) (m m' : Nat) : (tvG l P Q xs m m').length = 12 := rfl
set_option maxRecDepth 100000 in
set_option maxHeartbeats 4000000 in
theorem implTvl (xs : List GEarth) (v : Value) (w : World) (B : Nat) (h : EarthL w B v xs) (hB : B ≤ w.heap.size) (hok : okE xs) :
    Calls Try.prog 100 #[v] w fun e w' => e = .returned (.agg (tvE xs).toArray) ∧ Below w.heap.size w w' := by
  have HL := Lib.hid h
  have HO := Lib.hid hok
  have hl1 := hok.1.1
  have hl5 := hok.1.2
  obtain ⟨ao, cap, rfl, hcap, hmax, -, hc⟩ := h
  have HC := Lib.hid hc
  clear hc hok
  have b20 : Bx ((w.alloc (.cells z12.toArray 89)).alloc (.cells #[.int .i64 xs.length, .int .i64 1, .int .i64 0, .int .i64 0, .int .i64 0, .int .i64 0, .int .i64 0, .int .i64 0, .int .i64 0, .int .i64 0, .int .i64 0, .int .i64 0] 89)) w.heap.size z12 := (Bx.new w z12 89).alloc _
  have b30 : Bx ((w.alloc (.cells z12.toArray 89)).alloc (.cells #[.int .i64 xs.length, .int .i64 1, .int .i64 0, .int .i64 0, .int .i64 0, .int .i64 0, .int .i64 0, .int .i64 0, .int .i64 0, .int .i64 0, .int .i64 0, .int .i64 0] 89)) (w.heap.size + 1) (tvG xs.length 1 (prodE xs) xs 0 0) := by
    rw [tvG_zero]
    exact Bx.new1 w _ _ _
  have N0 : Below w.heap.size w ((w.alloc (.cells z12.toArray 89)).alloc (.cells #[.int .i64 xs.length, .int .i64 1, .int .i64 0, .int .i64 0, .int .i64 0, .int .i64 0, .int .i64 0, .int .i64 0, .int .i64 0, .int .i64 0, .int .i64 0, .int .i64 0] 89)) := ((Below.refl _ w).alloc (Nat.le_refl _) _).alloc (by simp) _
  go_enter Try.func100, Try.ntmps100
  go_wp2
  go_loopw [14] (fun i wr => ∃ (k : Nat), k ≤ xs.length ∧ i = .int .i64 k ∧ Bx wr w.heap.size z12 ∧ Bx wr (w.heap.size + 1) (tvG xs.length (prodE (xs.take k)) (prodE xs) xs 0 0) ∧ Below w.heap.size w wr) (fun i _ => xs.length - (intOf i).toNat)
  case atStart => exact ⟨0, Nat.zero_le _, rfl, b20, b30, N0⟩
  case round =>
    obtain ⟨k, hk, rfl, b2, b3, hbl⟩ := hrel
    have hsz := b3.1.1
    by_cases hlt : k < xs.length
    case pos =>
      obtain ⟨m, hm⟩ := get_of_lt hlt
      obtain ⟨b, off, rfl, hb, hcell⟩ := HC.out k m hm
      have c0 : wr.cell? ⟨b, off + k * 2, none⟩ = some (.int .i64 m.pThick) := cellOf hbl (by omega) (hcell 0 _ rfl)
      have c1 : wr.cell? ⟨b, off + k * 2 + 1, none⟩ = some (.int .i64 m.pSpeed) := cellOf hbl (by omega) (hcell 1 _ rfl)
      have hi0 : (0 : Int) ≤ (k : Int) := by omega
      have hi1 : (k : Int) < (xs.length : Int) := by omega
      have hi2 : (xs.length : Int) ≤ 5 := by omega
      have ho := okE_at HO.out hm
      have pb := prodE_take HO.out k
      have HP : Hid (prodE (xs.take (k + 1)) = prodE (xs.take k) * m.pSpeed) := Lib.hid (prodE_snoc hm)
      generalize prodE (xs.take k) = p at *
      obtain ⟨⟨ho0, ho1⟩, ho2, ho3⟩ := ho
      have m1 := mul_bdE (A := 312500000) (C := 50) (show 0 ≤ p by omega) pb.2 (show 0 ≤ m.pSpeed by omega) ho3
      have s1 : IntKind.i64.wrap (p * m.pSpeed) = p * m.pSpeed := IntWalk.i64_in _ (by omega)
      have b3a := b3.alloc (.cells #[.int .i64 m.pThick, .int .i64 m.pSpeed] 83)
      have b2a := b2.alloc (.cells #[.int .i64 m.pThick, .int .i64 m.pSpeed] 83)
      have p1 := b3a.2 1 _ rfl
      have pf := b3a.1.2
      have b3b := (b3.setAt 1 (by rw [tvG_len]; omega) (.int .i64 (p * m.pSpeed))).alloc (.cells #[.int .i64 m.pThick, .int .i64 m.pSpeed] 83)
      have b2b := (b2.setOther (p := ⟨w.heap.size + 1, 1, none⟩) (by simp) (.int .i64 (p * m.pSpeed))).alloc (.cells #[.int .i64 m.pThick, .int .i64 m.pSpeed] 83)
      have N1 := (hbl.setCell (p := ⟨w.heap.size + 1, 1, none⟩) (by simp) (.int .i64 (p * m.pSpeed))).alloc (by simp [World.setCell]; omega) (.cells #[.int .i64 m.pThick, .int .i64 m.pSpeed] 83)
      rw [tvG_set1] at b3b
      clear m1 pb hm hcell b20 b30 N0 b3 b2 b3a b2a
      go_wp2
      go_roundw
      case rel => exact ⟨k + 1, by omega, by go_num, b2b, by rw [HP.out]; exact b3b, N1⟩
      case measure => simp [intOf]; omega
    case neg =>
      obtain rfl : k = xs.length := by omega
      rw [List.take_length] at b3
      clear b20 b30 N0
      have hP := prodE_all HO.out
      have HQ := Lib.hid (fun (m : GEarth) (hm : m ∈ xs) => fkE_bd HO.out hm)
      have HT := Lib.hid (fun j => topE_bd HO.out j)
      have HE : Hid (tvG xs.length (prodE xs) (prodE xs) xs xs.length xs.length = tvE xs) := Lib.hid rfl
      have HF : Hid (∀ m : GEarth, (prodE xs).tdiv m.pSpeed = fkE (prodE xs) m) := Lib.hid (fun m => rfl)
      generalize prodE xs = P at *
      clear hlt hk
      go_wp2
      go_loopw [6, 27] (fun d i wq => ∃ (k : Nat), k ≤ xs.length ∧ i = .int .i64 k ∧ d = .int .i64 (topE P xs k) ∧ Bx wq w.heap.size z12 ∧ Bx wq (w.heap.size + 1) (tvG xs.length P P xs k k) ∧ Below w.heap.size w wq) (fun _ i _ => xs.length - (intOf i).toNat)
      case atStart => exact ⟨0, Nat.zero_le _, rfl, rfl, b2, b3, hbl⟩
      case round =>
        clear b2 b3 hbl hsz
        obtain ⟨k, hk, rfl, rfl, b2, b3, hbl⟩ := hrel
        have hsz := b3.1.1
        by_cases hlt : k < xs.length
        case pos =>
          obtain ⟨m, hm⟩ := get_of_lt hlt
          obtain ⟨b, off, rfl, hb, hcell⟩ := HC.out k m hm
          have c0 : wr.cell? ⟨b, off + k * 2, none⟩ = some (.int .i64 m.pThick) := cellOf hbl (by omega) (hcell 0 _ rfl)
          have c1 : wr.cell? ⟨b, off + k * 2 + 1, none⟩ = some (.int .i64 m.pSpeed) := cellOf hbl (by omega) (hcell 1 _ rfl)
          have hi0 : (0 : Int) ≤ (k : Int) := by omega
          have hi1 : (k : Int) < (xs.length : Int) := by omega
          have hi2 : (xs.length : Int) ≤ 5 := by omega
          have hi3 : (k : Int) < 5 := by omega
          have hi4 : k < 5 := by omega
          obtain ⟨⟨ho0, ho1⟩, ho2, ho3⟩ := okE_at HO.out hm
          have q1 := HQ.out m (List.mem_of_getElem? hm)
          have q2 := HT.out k (by omega)
          have hq : P.tdiv m.pSpeed = fkE P m := HF.out m
          have q3 := topE_succ (P := P) hm
          have q4 := HT.out (k + 1) (by omega)
          have x1 := b3.2 1 _ rfl
          have b3a := b3.setAt (2 + k) (by rw [tvG_len]; omega) (.int .i64 (fkE P m))
          rw [tvG_setFk hm (by omega)] at b3a
          have b3b := b3a.setAt (7 + k) (by rw [tvG_len]; omega) (.int .i64 (topE P xs k))
          rw [tvG_setTop (by omega)] at b3b
          have b2b := (b2.setOther (p := ⟨w.heap.size + 1, 2 + k, none⟩) (by simp) (.int .i64 (fkE P m))).setOther (p := ⟨w.heap.size + 1, 7 + k, none⟩) (by simp) (.int .i64 (topE P xs k))
          have x2 := b3.2 (2 + k) _ (tvG_fk (by omega))
          have x3 := b3.1.2
          have x4 := b3a.2 (7 + k) _ (tvG_top (by omega))
          have x5 := b3a.1.2
          have x6 := b3b.2 (2 + k) _ (tvG_fk (by omega))
          rw [fkU_at (by omega) hm] at x6
          have N1 := (hbl.setCell (p := ⟨w.heap.size + 1, 2 + k, none⟩) (by simp) (.int .i64 (fkE P m))).setCell (p := ⟨w.heap.size + 1, 7 + k, none⟩) (by simp) (.int .i64 (topE P xs k))
          obtain ⟨fk, hfk⟩ : ∃ fk, fkE P m = fk := ⟨_, rfl⟩
          rw [hfk] at q1 hq q3 b3a b3b b2b x4 x5 x6 N1
          obtain ⟨tp, htp⟩ : ∃ tp, topE P xs k = tp := ⟨_, rfl⟩
          rw [htp] at q2 q3 b3b b2b x6 N1 ⊢
          have HTP : Hid (tp + m.pThick * fk = topE P xs (k + 1)) := Lib.hid q3.symm
          rw [q3] at q4
          have m1 := mul_bdE (A := 200) (C := 6250000) (show 0 ≤ m.pThick by omega) ho1 (show 0 ≤ fk by omega) q1.2.2
          have s1 : IntKind.i64.wrap (m.pThick * fk) = m.pThick * fk := IntWalk.i64_in _ (by omega)
          have s2 : IntKind.i64.wrap (tp + m.pThick * fk) = tp + m.pThick * fk := IntWalk.i64_in _ (by omega)
          have s3 : IntKind.i64.wrap fk = fk := IntWalk.i64_in _ (by omega)
          have v0 : ¬ m.pSpeed = 0 := by omega
          have v1 : (m.pSpeed == 0) = false := by simp; omega
          have b3c := b3b.alloc (.cells #[.int .i64 m.pThick, .int .i64 m.pSpeed] 83)
          have b2c := b2b.alloc (.cells #[.int .i64 m.pThick, .int .i64 m.pSpeed] 83)
          have be := Bx.new ((wr.setCell ⟨w.heap.size + 1, 2 + k, none⟩ (.int .i64 fk)).setCell ⟨w.heap.size + 1, 7 + k, none⟩ (.int .i64 tp)) [.int .i64 m.pThick, .int .i64 m.pSpeed] 83
          have hzz : ((wr.setCell ⟨w.heap.size + 1, 2 + k, none⟩ (.int .i64 fk)).setCell ⟨w.heap.size + 1, 7 + k, none⟩ (.int .i64 tp)).heap.size = wr.heap.size := by simp [World.setCell]
          rw [hzz] at be
          have y0 : (((wr.setCell ⟨w.heap.size + 1, 2 + k, none⟩ (.int .i64 fk)).setCell ⟨w.heap.size + 1, 7 + k, none⟩ (.int .i64 tp)).alloc (.cells #[.int .i64 m.pThick, .int .i64 m.pSpeed] 83)).cell? ⟨wr.heap.size, 0, none⟩ = some (.int .i64 m.pThick) := be.2 0 _ rfl
          have y1 := b3c.2 (2 + k) _ (tvG_fk (by omega))
          rw [fkU_at (by omega) hm] at y1
          rw [hfk] at y1
          have N2 : Below w.heap.size w (((wr.setCell ⟨w.heap.size + 1, 2 + k, none⟩ (.int .i64 fk)).setCell ⟨w.heap.size + 1, 7 + k, none⟩ (.int .i64 tp)).alloc (.cells #[.int .i64 m.pThick, .int .i64 m.pSpeed] 83)) := N1.alloc (by rw [hzz]; omega) _
          clear m1 hm hcell b3 b2 b3a q1 q2 q3 q4 htp hfk be b3b b2b N1 hzz
          go_wp2
          go_quiet (fail)
          go_wp2
          go_roundw
          case rel => exact ⟨k + 1, by omega, by go_num, by rw [← HTP.out], b2c.drewN _, b3c.drewN _, drewN_b N2 _⟩
          case measure => simp [intOf]; omega
        case neg =>
          obtain rfl : k = xs.length := by omega
          rw [HE.out] at b3
          obtain ⟨f0, f1, f2, f3, f4, t0, t1, t2, t3, t4, ht⟩ := tvE_form xs
          rw [ht] at b3
          have HTV := Lib.hid ht
          clear ht
          have c0 := b3.2 0 _ rfl
          have c1 := b3.2 1 _ rfl
          have c2 := b3.2 2 _ rfl
          have c3 := b3.2 3 _ rfl
          have c4 := b3.2 4 _ rfl
          have c5 := b3.2 5 _ rfl
          have c6 := b3.2 6 _ rfl
          have c7 := b3.2 7 _ rfl
          have c8 := b3.2 8 _ rfl
          have c9 := b3.2 9 _ rfl
          have c10 := b3.2 10 _ rfl
          have c11 := b3.2 11 _ rfl
          have z0 := b2.2 0 _ rfl
          have fz0 := b2.1.2 0
          have z1 := b2.2 1 _ rfl
          have fz1 := b2.1.2 1
          have z2 := b2.2 2 _ rfl
          have fz2 := b2.1.2 2
          have z3 := b2.2 3 _ rfl
          have fz3 := b2.1.2 3
          have z4 := b2.2 4 _ rfl
          have fz4 := b2.1.2 4
          have z5 := b2.2 5 _ rfl
          have fz5 := b2.1.2 5
          have z6 := b2.2 6 _ rfl
          have fz6 := b2.1.2 6
          have z7 := b2.2 7 _ rfl
          have fz7 := b2.1.2 7
          have z8 := b2.2 8 _ rfl
          have fz8 := b2.1.2 8
          have z9 := b2.2 9 _ rfl
          have fz9 := b2.1.2 9
          have z10 := b2.2 10 _ rfl
          have fz10 := b2.1.2 10
          have z11 := b2.2 11 _ rfl
          have fz11 := b2.1.2 11
          go_wp2
          change bodyPost _ _ _ _ _ (putCells wr w.heap.size 0 [.int .i64 xs.length, .int .i64 (prodE xs), .int .i64 f0, .int .i64 f1, .int .i64 f2, .int .i64 f3, .int .i64 f4, .int .i64 t0, .int .i64 t1, .int .i64 t2, .int .i64 t3, .int .i64 t4] 0)
          have bw := b2.putsE (ds := [.int .i64 xs.length, .int .i64 (prodE xs), .int .i64 f0, .int .i64 f1, .int .i64 f2, .int .i64 f3, .int .i64 f4, .int .i64 t0, .int .i64 t1, .int .i64 t2, .int .i64 t3, .int .i64 t4]) rfl
          have BW := below_putCells hbl (b := w.heap.size) (by omega) 0 [.int .i64 xs.length, .int .i64 (prodE xs), .int .i64 f0, .int .i64 f1, .int .i64 f2, .int .i64 f3, .int .i64 f4, .int .i64 t0, .int .i64 t1, .int .i64 t2, .int .i64 t3, .int .i64 t4] 0
          generalize putCells wr w.heap.size 0 [.int .i64 xs.length, .int .i64 (prodE xs), .int .i64 f0, .int .i64 f1, .int .i64 f2, .int .i64 f3, .int .i64 f4, .int .i64 t0, .int .i64 t1, .int .i64 t2, .int .i64 t3, .int .i64 t4] 0 = wf at *
          have y0 : wf.cell? ⟨w.heap.size, 0, none⟩ = some (.int .i64 xs.length) := bw.2 0 _ rfl
          have y1 : wf.cell? ⟨w.heap.size, 1, none⟩ = some (.int .i64 (prodE xs)) := bw.2 1 _ rfl
          have y2 : wf.cell? ⟨w.heap.size, 2, none⟩ = some (.int .i64 f0) := bw.2 2 _ rfl
          have y3 : wf.cell? ⟨w.heap.size, 3, none⟩ = some (.int .i64 f1) := bw.2 3 _ rfl
          have y4 : wf.cell? ⟨w.heap.size, 4, none⟩ = some (.int .i64 f2) := bw.2 4 _ rfl
          have y5 : wf.cell? ⟨w.heap.size, 5, none⟩ = some (.int .i64 f3) := bw.2 5 _ rfl
          have y6 : wf.cell? ⟨w.heap.size, 6, none⟩ = some (.int .i64 f4) := bw.2 6 _ rfl
          have y7 : wf.cell? ⟨w.heap.size, 7, none⟩ = some (.int .i64 t0) := bw.2 7 _ rfl
          have y8 : wf.cell? ⟨w.heap.size, 8, none⟩ = some (.int .i64 t1) := bw.2 8 _ rfl
          have y9 : wf.cell? ⟨w.heap.size, 9, none⟩ = some (.int .i64 t2) := bw.2 9 _ rfl
          have y10 : wf.cell? ⟨w.heap.size, 10, none⟩ = some (.int .i64 t3) := bw.2 10 _ rfl
          have y11 : wf.cell? ⟨w.heap.size, 11, none⟩ = some (.int .i64 t4) := bw.2 11 _ rfl
          refine bodyPost_ret (v := .agg #[.int .i64 xs.length, .int .i64 (prodE xs), .int .i64 f0, .int .i64 f1, .int .i64 f2, .int .i64 f3, .int .i64 f4, .int .i64 t0, .int .i64 t1, .int .i64 t2, .int .i64 t3, .int .i64 t4]) (by simp [results, Try.results100, go_sem, y0, y1, y2, y3, y4, y5, y6, y7, y8, y9, y10, y11]) rfl ⟨by rw [HTV.out], BW⟩
end Go.Proofs.Ytklilfbokpljkaa
