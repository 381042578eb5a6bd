/- The specification's draw of a track and a mark. -/
import Derived.Test.YtklilfbokpljkacDrL
namespace Go.Proofs.Ytklilfbokpljkac
open Go.ChangeShapes Go.WideShapes Go.ChangeAt Go.RowKit Go.ChangeMaps
set_option linter.unusedSimpArgs false
set_option linter.unusedVariables false
set_option linter.unusedSimpArgs false
set_option linter.unusedVariables false

set_option maxRecDepth 100000 in
set_option maxHeartbeats 2000000 in
theorem drawAdd (w : World) (B : Nat) (v : Value) (h : CodeArg w B v) :
    Calls Try.prog 73 #[v] w fun e w' => ∃ (v1 : Value) (xs : List GClockMark) (m : GClockMark), e = .returned (.tuple #[v1, .agg #[.int .i64 m.pShown, .int .i64 m.pTrue]]) ∧ ((-3000000 ≤ m.pShown ∧ m.pShown ≤ 3000000) ∧ (-3000000 ≤ m.pTrue ∧ m.pTrue ≤ 3000000)) ∧ DrTk w w' v1 xs := by
  have hN := (Below.refl w.heap.size w).alloc (Nat.le_refl _) (.cells #[.int .i64 0, .int .i64 0] 50)
  have h9 := h.below (hN.mono h.1)
  obtain ⟨h0, ao, n, cap, rfl, h2, h3⟩ := h9
  have d0 := Bx.new w [.int .i64 0, .int .i64 0] 50
  have hcu := cur_new (w.alloc (.cells #[.int .i64 0, .int .i64 0] 50)) B ao n cap h0 h2 h3
  rw [World.size_alloc] at hcu
  have d1 := d0.alloc (.cells #[.slice ao n cap, .int .i64 0, .int .u64 0] 87)
  obtain ⟨W, hW⟩ : ∃ W, (w.alloc (.cells #[.int .i64 0, .int .i64 0] 50)).alloc (.cells #[.slice ao n cap, .int .i64 0, .int .u64 0] 87) = W := ⟨_, rfl⟩
  have hWz : W.heap.size = w.heap.size + 2 := by rw [← hW]; simp
  have hWB : Below w.heap.size w W := hW ▸ hN.alloc (by simp) _
  rw [hW] at hcu d1
  have HWZ := Lib.hid hWz
  have hbw : w.heap.size + 1 < W.heap.size := by omega
  clear h3 hN d0 h0 hWz
  go_enter Try.func73, Try.ntmps73
  go_wp2_with fail
  refine (cur_track _ B (w.heap.size + 1) 0 hcu (by omega)).mono ?_
  rintro e w1 ⟨v1, xs, rfl, hl, hbd, hO, hc1, hg1⟩
  have HBD := Lib.hid hbd
  obtain ⟨a1, c1, rfl⟩ := hO.form
  have d2 := d1.grown hg1 (by simp)
  have hl0 : (xs.length : Int) ≤ 11 := by omega
  clear hcu hbd d1 hW
  go_wp2_with fail
  refine (cur_pick _ B (w.heap.size + 1) _ (xs.length : Int) hc1 (by omega) (by omega) (by omega)).mono ?_
  rintro e w2 ⟨r, rfl, hr0, hr1, hc2, hg2⟩
  obtain ⟨q, rfl⟩ : ∃ q : Nat, r = q := ⟨r.toNat, by omega⟩
  have d3 := d2.grown hg2 (by simp)
  have HO2 := Lib.hid ((own_drew hO hg2 hbw).mono (Nat.le_refl _) hg2.size)
  have G2 := hg1.trans hg2
  obtain ⟨y, hy⟩ := get_of_lt (l := xs) (k := q) (by omega)
  have hyb := HBD.out y (List.mem_of_getElem? hy)
  obtain ⟨ao9, cap9, e9, -, -, -, hcc⟩ := HO2.out
  simp only [Value.slice.injEq, true_and] at e9
  obtain ⟨rfl, rfl⟩ := e9
  obtain ⟨g, off, rfl, hgL, -, hgw, hcell, -⟩ := hcc q y hy
  have y0 : w2.cell? ⟨g, off + q * 2, none⟩ = some (.int .i64 y.pShown) := hcell 0 _ rfl
  have y1 : w2.cell? ⟨g, off + q * 2 + 1, none⟩ = some (.int .i64 y.pTrue) := hcell 1 _ rfl
  unfold BdM at hyb
  have bx := Bx.new w2 [.int .i64 y.pShown, .int .i64 y.pTrue] 50
  have d4 := d3.alloc (.cells #[.int .i64 y.pShown, .int .i64 y.pTrue] 50)
  have hc3 := hc2.alloc (.cells #[.int .i64 y.pShown, .int .i64 y.pTrue] 50)
  have HO3 := Lib.hid (HO2.out.alloc (.cells #[.int .i64 y.pShown, .int .i64 y.pTrue] 50))
  have G3 := G2.trans (grown_alloc w2 (.cells #[.int .i64 y.pShown, .int .i64 y.pTrue] 50) (some (w.heap.size + 1)))
  have z23 : w2.heap.size ≤ (w2.alloc (.cells #[.int .i64 y.pShown, .int .i64 y.pTrue] 50)).heap.size := by simp
  have hgxb : w.heap.size + 1 < w2.heap.size := Nat.lt_of_lt_of_le hbw G2.size
  obtain ⟨w3, hw3⟩ : ∃ x, w2.alloc (.cells #[.int .i64 y.pShown, .int .i64 y.pTrue] 50) = x := ⟨_, rfl⟩
  rw [hw3] at bx d4 hc3 HO3 G3 z23
  have hl3 := ints_lit w3 (w.heap.size + 1) hc3.lt 3 5 [1, 3, 8000, 0, -1]
  clear hcell hcc hy HO2 d2 d3 hg1 hg2 hc1 hc2 hO G2
  go_wp2_with fail
  refine (cur_among _ B (w.heap.size + 1) _ (hc3.alloc _) (by omega) _ _ hl3 (by simp) (by simp)).mono ?_
  rintro e w4 ⟨d, rfl, hd, hc4, hg4⟩
  have hd2 : -1 ≤ d ∧ d ≤ 8000 := by simp at hd; omega
  have bx4 := (bx.alloc (.cells #[.int .i64 1, .int .i64 3, .int .i64 8000, .int .i64 0, .int .i64 (-1)] 3)).grown hg4 (by simp; omega)
  have d5 := (d4.alloc (.cells #[.int .i64 1, .int .i64 3, .int .i64 8000, .int .i64 0, .int .i64 (-1)] 3)).grown hg4 (by simp)
  have HO4 := Lib.hid (own_drew (HO3.out.alloc (.cells #[.int .i64 1, .int .i64 3, .int .i64 8000, .int .i64 0, .int .i64 (-1)] 3)) hg4 hbw)
  have G4 := G3.trans ((grown_alloc w3 (.cells #[.int .i64 1, .int .i64 3, .int .i64 8000, .int .i64 0, .int .i64 (-1)] 3) _).trans hg4)
  have z34 : w3.heap.size ≤ w4.heap.size := by have := hg4.size; simp at this; omega
  have s1 : IntKind.i64.wrap (y.pShown + d) = y.pShown + d := IntWalk.i64_in _ (by omega)
  have s2 : IntKind.i64.wrap (y.pTrue + d) = y.pTrue + d := IntWalk.i64_in _ (by omega)
  clear hd hl3 HO3 d4 bx hg4 hc3 hw3 G3 y0 y1
  generalize w2.heap.size = gx at *
  have bx2 : ∀ {w' : World}, Bx w' gx [.int .i64 y.pShown, .int .i64 y.pTrue] → w'.cell? ⟨gx, 0, none⟩ = some (.int .i64 y.pShown) ∧ w'.cell? ⟨gx, 1, none⟩ = some (.int .i64 y.pTrue) := fun h => ⟨h.2 0 _ rfl, h.2 1 _ rfl⟩
  have bt : Bx w4.drew gx [.int .i64 y.pShown, .int .i64 y.pTrue] := bx4
  have dt : Bx w4.drew w.heap.size [.int .i64 0, .int .i64 0] := d5
  have HC := Lib.hid (show Cur w4.drew B (w.heap.size + 1) _ from hc4)
  have HK := Lib.hid (bx2 bt)
  have GD : w4.grownBy w4.drew (some (w.heap.size + 1)) := ⟨rfl, rfl, rfl, Nat.le_refl _, fun _ _ _ => rfl⟩
  have ne1 : w.heap.size ≠ gx := by omega
  go_wp2
  go_region_held3 (fun w' => w'.cell? ⟨gx, 0, none⟩ = some (.int .i64 y.pShown) ∧ w'.cell? ⟨gx, 1, none⟩ = some (.int .i64 y.pTrue))
    (first
      | with_reducible exact HK.out
      | with_reducible exact k5
      | exact bx2 ((b5.setOther (p := ⟨w.heap.size, 0, none⟩) ne1 _).setOther (p := ⟨w.heap.size, 1, none⟩) ne1 _))
    (first
      | (go_at_call 106; (with_reducible refine (cur_pick w4.drew B (w.heap.size + 1) _ 2 HC.out (by omega) (by omega) (by omega)).mono ?_); rintro e w5 ⟨r, rfl, hr2, hr3, hc5, hg5⟩; have b5 := bt.grown hg5 (by simp; omega); have d6 := dt.grown hg5 (by simp); have G5 := GD.trans hg5; have k5 := bx2 b5; have x0 := d6.2 0 _ rfl; have x1 := d6.2 1 _ rfl; have xf := d6.1.2; have s3 : IntKind.i64.wrap (y.pTrue + d + r) = y.pTrue + d + r := IntWalk.i64_in _ (by omega)))
  all_goals
    have zz := G5.size
    have HO6 := Lib.hid (((own_drew HO4.out G5 hbw).setLow (p := ⟨w.heap.size, 0, none⟩) (by show w.heap.size < W.heap.size; omega) (.int .i64 (y.pShown + d))).setLow (p := ⟨w.heap.size, 1, none⟩) (by show w.heap.size < W.heap.size; omega) (.int .i64 (y.pTrue + d + r)))
    have HB6 : Hid (Below w.heap.size w ((w5.setCell ⟨w.heap.size, 0, none⟩ (.int .i64 (y.pShown + d))).setCell ⟨w.heap.size, 1, none⟩ (.int .i64 (y.pTrue + d + r)))) := Lib.hid (((hWB.grown (G4.trans G5) (by omega) (fun g e => by cases e; omega)).setCell (by simp) _).setCell (by simp) _)
    clear bt dt HC HK GD b5 k5 bx2 bx4 hg5 hc5 hc4
    go_wp2
    refine bodyPost_ret (v := .tuple #[.slice (some ⟨g, off, none⟩) xs.length c1, .agg #[.int .i64 (y.pShown + d), .int .i64 (y.pTrue + d + r)]]) (by simp [results, Try.results73, go_sem, x0, x1]) rfl ⟨_, xs, ⟨y.pShown + d, y.pTrue + d + r⟩, rfl, by simp only; omega, HO6.out.lst.mono (by simp [World.setCell]; omega), hl, HBD.out, HB6.out⟩
end Go.Proofs.Ytklilfbokpljkac
