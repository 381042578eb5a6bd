/- The specification's draws for the laws on votes: results in boxes. -/
import Derived.Test.YtoogofceoinniabVdC
import Derived.Test.YtoogofceoinniabVoI
namespace Go.Proofs.Ytoogofceoinniab
open Go.ChangeShapes Go.WideShapes Go.ChangeAt Go.RowKit Go.ChangeMaps
set_option linter.unusedSimpArgs false
set_option linter.unusedVariables false
set_option linter.unusedSimpArgs false
set_option linter.unusedVariables false

def atA (xs : List GArrival) (q : Nat) : GArrival := xs.getD q zeroArrival
theorem adl_els {w0 w : World} {B b k g1 n cap : Nat} {xs : List GArrival} (h : Adl w0 w B b k (.slice (some ⟨g1, 0, none⟩) n cap) xs) : (∀ q : Nat, q < xs.length → (w).cell? ⟨g1, q * 5, none⟩ = some (.int .i64 (atA xs q).pId)) ∧ (∀ q : Nat, q < xs.length → (w).cell? ⟨g1, q * 5 + 1, none⟩ = some (.int .i64 (atA xs q).pX)) ∧ (∀ q : Nat, q < xs.length → (w).cell? ⟨g1, q * 5 + 2, none⟩ = some (.int .i64 (atA xs q).pY)) ∧ (∀ q : Nat, q < xs.length → (w).cell? ⟨g1, q * 5 + 3, none⟩ = some (.int .i64 (atA xs q).pTick)) ∧ (∀ q : Nat, q < xs.length → (w).cell? ⟨g1, q * 5 + 4, none⟩ = some (.int .i64 (atA xs q).pError)) := by
  obtain ⟨ao, cap9, e9, -, -, -, hcc⟩ := h.lst
  simp only [Value.slice.injEq] at e9
  obtain ⟨rfl, -, rfl⟩ := e9
  have key : ∀ q : Nat, q < xs.length → ∀ j v, (encArrival (atA xs q))[j]? = some v → w.cell? ⟨g1, q * 5 + j, none⟩ = some v := by
    intro q hq j v hj
    obtain ⟨t, ht⟩ := get_of_lt (l := xs) (k := q) hq
    obtain ⟨g9, off9, e10, -, hcell⟩ := hcc q t ht
    simp only [Option.some.injEq, Addr.mk.injEq, and_true] at e10
    obtain ⟨rfl, rfl⟩ := e10
    have e : atA xs q = t := by rw [atA, List.getD_eq_getElem?_getD, ht]; rfl
    rw [e] at hj
    have := hcell j v hj
    simpa using this
  exact ⟨fun q hq => key q hq 0 _ rfl, fun q hq => key q hq 1 _ rfl, fun q hq => key q hq 2 _ rfl, fun q hq => key q hq 3 _ rfl, fun q hq => key q hq 4 _ rfl⟩
theorem Bx.drwV {w : World} {b : Nat} {cs : List Value} (h : Bx w b cs) : Bx w.drew b cs := h
theorem Bx.put5 {w : World} {b : Nat} {x0 x1 x2 x3 x4 : Value} (h : Bx w b [x0, x1, x2, x3, x4]) (y0 y1 y2 y3 y4 : Value) :
    Bx (((((w.setCell ⟨b, 0, none⟩ y0).setCell ⟨b, 1, none⟩ y1).setCell ⟨b, 2, none⟩ y2).setCell ⟨b, 3, none⟩ y3).setCell ⟨b, 4, none⟩ y4) b [y0, y1, y2, y3, y4] := by
  have := ((((h.setAt 0 (by simp) y0).setAt 1 (by simp) y1).setAt 2 (by simp) y2).setAt 3 (by simp) y3).setAt 4 (by simp) y4
  simpa using this
theorem Bx.other5 {w : World} {b g : Nat} {cs : List Value} (h : Bx w b cs) (hg : g ≠ b) (y0 y1 y2 y3 y4 : Value) :
    Bx (((((w.setCell ⟨g, 0, none⟩ y0).setCell ⟨g, 1, none⟩ y1).setCell ⟨g, 2, none⟩ y2).setCell ⟨g, 3, none⟩ y3).setCell ⟨g, 4, none⟩ y4) b cs :=
  ((((h.setOther (p := ⟨g, 0, none⟩) hg y0).setOther (p := ⟨g, 1, none⟩) hg y1).setOther (p := ⟨g, 2, none⟩) hg y2).setOther (p := ⟨g, 3, none⟩) hg y3).setOther (p := ⟨g, 4, none⟩) hg y4
theorem below_put5 {B : Nat} {a w : World} (h : Below B a w) {b : Nat} (hb : B ≤ b) (y0 y1 y2 y3 y4 : Value) : Below B a (((((w.setCell ⟨b, 0, none⟩ y0).setCell ⟨b, 1, none⟩ y1).setCell ⟨b, 2, none⟩ y2).setCell ⟨b, 3, none⟩ y3).setCell ⟨b, 4, none⟩ y4) :=
  ((((h.setCell (p := ⟨b, 0, none⟩) hb _).setCell (p := ⟨b, 1, none⟩) hb _).setCell (p := ⟨b, 2, none⟩) hb _).setCell (p := ⟨b, 3, none⟩) hb _).setCell (p := ⟨b, 4, none⟩) hb _
theorem below_put3 {B : Nat} {a w : World} (h : Below B a w) {b : Nat} (hb : B ≤ b) (y0 y1 y2 : Value) : Below B a (((w.setCell ⟨b, 0, none⟩ y0).setCell ⟨b, 1, none⟩ y1).setCell ⟨b, 2, none⟩ y2) :=
  ((h.setCell (p := ⟨b, 0, none⟩) hb _).setCell (p := ⟨b, 1, none⟩) hb _).setCell (p := ⟨b, 2, none⟩) hb _
theorem cell_put5 {w : World} {a : Addr} {b : Nat} (hb : b ≠ a.block) (y0 y1 y2 y3 y4 : Value) : (((((w.setCell ⟨b, 0, none⟩ y0).setCell ⟨b, 1, none⟩ y1).setCell ⟨b, 2, none⟩ y2).setCell ⟨b, 3, none⟩ y3).setCell ⟨b, 4, none⟩ y4).cell? a = w.cell? a := by
  have step : ∀ (w : World) (i : Nat) (u : Value), (w.setCell ⟨b, i, none⟩ u).cell? a = w.cell? a := fun w i u => World.cell?_of_block (Below.heap_setCell w ⟨b, i, none⟩ u a.block (fun e => hb e.symm))
  simp only [step]
theorem els_put5 {w : World} {g1 b : Nat} {xs : List GArrival} (h : (∀ q : Nat, q < xs.length → (w).cell? ⟨g1, q * 5, none⟩ = some (.int .i64 (atA xs q).pId)) ∧ (∀ q : Nat, q < xs.length → (w).cell? ⟨g1, q * 5 + 1, none⟩ = some (.int .i64 (atA xs q).pX)) ∧ (∀ q : Nat, q < xs.length → (w).cell? ⟨g1, q * 5 + 2, none⟩ = some (.int .i64 (atA xs q).pY)) ∧ (∀ q : Nat, q < xs.length → (w).cell? ⟨g1, q * 5 + 3, none⟩ = some (.int .i64 (atA xs q).pTick)) ∧ (∀ q : Nat, q < xs.length → (w).cell? ⟨g1, q * 5 + 4, none⟩ = some (.int .i64 (atA xs q).pError))) (hb : b ≠ g1) (y0 y1 y2 y3 y4 : Value) : (∀ q : Nat, q < xs.length → ((((((w.setCell ⟨b, 0, none⟩ y0).setCell ⟨b, 1, none⟩ y1).setCell ⟨b, 2, none⟩ y2).setCell ⟨b, 3, none⟩ y3).setCell ⟨b, 4, none⟩ y4)).cell? ⟨g1, q * 5, none⟩ = some (.int .i64 (atA xs q).pId)) ∧ (∀ q : Nat, q < xs.length → ((((((w.setCell ⟨b, 0, none⟩ y0).setCell ⟨b, 1, none⟩ y1).setCell ⟨b, 2, none⟩ y2).setCell ⟨b, 3, none⟩ y3).setCell ⟨b, 4, none⟩ y4)).cell? ⟨g1, q * 5 + 1, none⟩ = some (.int .i64 (atA xs q).pX)) ∧ (∀ q : Nat, q < xs.length → ((((((w.setCell ⟨b, 0, none⟩ y0).setCell ⟨b, 1, none⟩ y1).setCell ⟨b, 2, none⟩ y2).setCell ⟨b, 3, none⟩ y3).setCell ⟨b, 4, none⟩ y4)).cell? ⟨g1, q * 5 + 2, none⟩ = some (.int .i64 (atA xs q).pY)) ∧ (∀ q : Nat, q < xs.length → ((((((w.setCell ⟨b, 0, none⟩ y0).setCell ⟨b, 1, none⟩ y1).setCell ⟨b, 2, none⟩ y2).setCell ⟨b, 3, none⟩ y3).setCell ⟨b, 4, none⟩ y4)).cell? ⟨g1, q * 5 + 3, none⟩ = some (.int .i64 (atA xs q).pTick)) ∧ (∀ q : Nat, q < xs.length → ((((((w.setCell ⟨b, 0, none⟩ y0).setCell ⟨b, 1, none⟩ y1).setCell ⟨b, 2, none⟩ y2).setCell ⟨b, 3, none⟩ y3).setCell ⟨b, 4, none⟩ y4)).cell? ⟨g1, q * 5 + 4, none⟩ = some (.int .i64 (atA xs q).pError)) :=
  ⟨fun q hq => (cell_put5 hb y0 y1 y2 y3 y4).trans (h.1 q hq), fun q hq => (cell_put5 hb y0 y1 y2 y3 y4).trans (h.2.1 q hq), fun q hq => (cell_put5 hb y0 y1 y2 y3 y4).trans (h.2.2.1 q hq), fun q hq => (cell_put5 hb y0 y1 y2 y3 y4).trans (h.2.2.2.1 q hq), fun q hq => (cell_put5 hb y0 y1 y2 y3 y4).trans (h.2.2.2.2 q hq)⟩
theorem okBg_wf (xs : List GArrival) (step : Int) : okOr (resBg xs step) ∨ resBg xs step = ⟨0, 0, 0⟩ := by
  unfold resBg
  cases h : askBg xs step with
  | false => exact Or.inr rfl
  | true => exact Or.inl (bestV_fine (askBg_yes h).1 (askBg_yes h).2).1
theorem grown_twoV {w w' : World} {o p : Obj} (h : ((w.alloc o).alloc p).grownBy w' (some (w.heap.size + 1))) : Below w.heap.size w w' := by
  have h1 := ((Below.refl w.heap.size w).alloc (Nat.le_refl _) o).alloc (by simp) p
  exact h1.grown h (by simp; omega) (fun g e => by cases e; omega)
theorem DrAr.drw {w w' : World} {v : Value} {xs : List GArrival} (h : DrAr w w' v xs) : DrAr w w'.drew v xs := ⟨h.own, h.len, h.bd, h.below.drew⟩
theorem Adl.drawn3 {w w' : World} {o p : Obj} {B k : Nat} {v : Value} {xs : List GArrival} (h : Adl ((w.alloc o).alloc p) w' B (w.heap.size + 1) k v xs) (y0 y1 y2 : Value) :
    DrAr w (((w'.setCell ⟨w.heap.size, 0, none⟩ y0).setCell ⟨w.heap.size, 1, none⟩ y1).setCell ⟨w.heap.size, 2, none⟩ y2) v xs := by
  have step : ∀ (W : World) (i : Nat) (u : Value) (q : Nat), w.heap.size < q → (W.setCell ⟨w.heap.size, i, none⟩ u).heap[q]? = W.heap[q]? := fun W i u q hq => Below.heap_setCell W ⟨w.heap.size, i, none⟩ u q (by show q ≠ w.heap.size; omega)
  have hsz : (((w'.setCell ⟨w.heap.size, 0, none⟩ y0).setCell ⟨w.heap.size, 1, none⟩ y1).setCell ⟨w.heap.size, 2, none⟩ y2).heap.size = w'.heap.size := by simp [World.setCell]
  refine ⟨(h.own.kept (by rw [hsz]; exact Nat.le_refl _) fun i h1 _ h3 => ?_).mono (by simp; omega) (by rw [hsz]; exact Nat.le_refl _), h.len, h.bd, below_put3 (grown_twoV h.gr) (Nat.le_refl _) y0 y1 y2⟩
  simp only [World.size_alloc] at h1
  rw [step _ _ _ _ (by omega), step _ _ _ _ (by omega), step _ _ _ _ (by omega)]
set_option maxRecDepth 100000 in
set_option maxHeartbeats 2000000 in
theorem drawTT (w : World) (B : Nat) (v : Value) (h : CodeArg w B v) :
    Calls Try.prog 54 #[v] w fun e w' => ∃ (a : GArrival) (x y : Int), e = .returned (.tuple #[aggA a, .int .i64 x, .int .i64 y]) ∧ BdA a ∧ (-1 ≤ x ∧ x ≤ 2000000) ∧ (-1 ≤ y ∧ y ≤ 2000000) ∧ Below w.heap.size w w' := by
  obtain ⟨h0, ao, n, cap, rfl, h2, h3⟩ := h
  have hcu := Lib.hid (cur_new1V w (.cells #[.int .i64 0, .int .i64 0, .int .i64 0, .int .i64 0, .int .i64 0] 28) B ao n cap h0 h2 h3)
  have d0 := (Bx.new w [.int .i64 0, .int .i64 0, .int .i64 0, .int .i64 0, .int .i64 0] 28).alloc (.cells #[.slice ao n cap, .int .i64 0, .int .u64 0] 106)
  have hz : w.heap.size + 2 ≤ ((w.alloc (.cells #[.int .i64 0, .int .i64 0, .int .i64 0, .int .i64 0, .int .i64 0] 28)).alloc (.cells #[.slice ao n cap, .int .i64 0, .int .u64 0] 106)).heap.size := by simp
  clear h3
  have hbw : w.heap.size + 1 < ((w.alloc (.cells #[.int .i64 0, .int .i64 0, .int .i64 0, .int .i64 0, .int .i64 0] 28)).alloc (.cells #[.slice ao n cap, .int .i64 0, .int .u64 0] 106)).heap.size := by omega
  go_enter Try.func54, Try.ntmps54
  go_wp2_with fail
  refine (cur_arrivals _ B (w.heap.size + 1) 0 hcu.out (by omega)).mono ?_
  rintro e w1 ⟨v1, xs, rfl, hS⟩
  obtain ⟨g1, cap1, rfl⟩ := hS.form
  have d1 := d0.grown hS.gr (by simp)
  have HS1 := Lib.hid hS
  clear hS hcu d0
  go_wp2_with fail
  refine (cur_quake _ B (w.heap.size + 1) _ HS1.out.cur (by omega)).mono ?_
  rintro e w2 ⟨oq, rfl, hoq, hc, hg⟩
  have d2 := d1.grown hg (by simp)
  have HS2 := Lib.hid (HS1.out.draw hbw hg hc)
  have zw := HS2.out.gr.size
  clear HS1 hc hg d1
  have HS3 := Lib.hid (HS2.out.alloc (.cells #[.int .i64 oq.pX, .int .i64 oq.pY, .int .i64 oq.pTick] 30))
  have bO := Bx.new w2 [.int .i64 oq.pX, .int .i64 oq.pY, .int .i64 oq.pTick] 30
  have d3 := d2.alloc (.cells #[.int .i64 oq.pX, .int .i64 oq.pY, .int .i64 oq.pTick] 30)
  obtain ⟨⟨ox0, ox1⟩, ⟨oy0, oy1⟩, -⟩ := hoq
  clear HS2 d2
  by_cases hl : xs.length = 0
  · go_wp2
    generalize w2.alloc (.cells #[.int .i64 oq.pX, .int .i64 oq.pY, .int .i64 oq.pTick] 30) = W3 at *
    have hne : w.heap.size ≠ w2.heap.size := by omega
    have hnc : some w2.heap.size ≠ some (w.heap.size + 1) := by simp; omega
    have bOd : Bx W3.drew w2.heap.size [.int .i64 oq.pX, .int .i64 oq.pY, .int .i64 oq.pTick] := bO
    have dd : Bx W3.drew w.heap.size [.int .i64 0, .int .i64 0, .int .i64 0, .int .i64 0, .int .i64 0] := d3
    have HSd := Lib.hid (HS3.out.below (Below.refl _ _).drew)
    have o0 := bOd.2 0 _ rfl
    have o1 := bOd.2 1 _ rfl
    have q0 := d3.2 0 _ rfl
    have q1 := d3.2 1 _ rfl
    have q2 := d3.2 2 _ rfl
    have q3 := d3.2 3 _ rfl
    have q4 := d3.2 4 _ rfl
    have qf := d3.1.2
    have c0 := dd.2 0 _ rfl
    have c1 := dd.2 1 _ rfl
    have c2 := dd.2 2 _ rfl
    have c3 := dd.2 3 _ rfl
    have c4 := dd.2 4 _ rfl
    have cf := dd.1.2
    have bz : Bx (((((W3.setCell ⟨w.heap.size, 0, none⟩ (.int .i64 1)).setCell ⟨w.heap.size, 1, none⟩ (.int .i64 0)).setCell ⟨w.heap.size, 2, none⟩ (.int .i64 0)).setCell ⟨w.heap.size, 3, none⟩ (.int .i64 40)).setCell ⟨w.heap.size, 4, none⟩ (.int .i64 0)).drew w2.heap.size [.int .i64 oq.pX, .int .i64 oq.pY, .int .i64 oq.pTick] := (bO.other5 (g := w.heap.size) hne (.int .i64 1) (.int .i64 0) (.int .i64 0) (.int .i64 40) (.int .i64 0)).drwV
    have z0 := bz.2 0 _ rfl
    have z1 := bz.2 1 _ rfl
    have hlow : Below w.heap.size w (((((W3.setCell ⟨w.heap.size, 0, none⟩ (.int .i64 1)).setCell ⟨w.heap.size, 1, none⟩ (.int .i64 0)).setCell ⟨w.heap.size, 2, none⟩ (.int .i64 0)).setCell ⟨w.heap.size, 3, none⟩ (.int .i64 40)).setCell ⟨w.heap.size, 4, none⟩ (.int .i64 0)).drew := (below_put5 (grown_twoV HS3.out.gr) (b := w.heap.size) (Nat.le_refl _) (.int .i64 1) (.int .i64 0) (.int .i64 0) (.int .i64 40) (.int .i64 0)).drew
    have dz : Bx (((((W3.setCell ⟨w.heap.size, 0, none⟩ (.int .i64 1)).setCell ⟨w.heap.size, 1, none⟩ (.int .i64 0)).setCell ⟨w.heap.size, 2, none⟩ (.int .i64 0)).setCell ⟨w.heap.size, 3, none⟩ (.int .i64 40)).setCell ⟨w.heap.size, 4, none⟩ (.int .i64 0)).drew w.heap.size [.int .i64 1, .int .i64 0, .int .i64 0, .int .i64 40, .int .i64 0] := (d3.put5 (.int .i64 1) (.int .i64 0) (.int .i64 0) (.int .i64 40) (.int .i64 0)).drwV
    go_region_held3 (fun w' => w'.cell? ⟨w2.heap.size, 0, none⟩ = some (.int .i64 oq.pX) ∧ w'.cell? ⟨w2.heap.size, 1, none⟩ = some (.int .i64 oq.pY))
      (first
        | with_reducible exact ⟨o0, o1⟩
        | with_reducible exact ⟨z0, z1⟩)
      (fail)
    clear z0 z1 bz q0 q1 q2 q3 q4 qf c0 c1 c2 c3 c4 cf o0 o1 bOd dd bO d3
    generalize (((((W3.setCell ⟨w.heap.size, 0, none⟩ (.int .i64 1)).setCell ⟨w.heap.size, 1, none⟩ (.int .i64 0)).setCell ⟨w.heap.size, 2, none⟩ (.int .i64 0)).setCell ⟨w.heap.size, 3, none⟩ (.int .i64 40)).setCell ⟨w.heap.size, 4, none⟩ (.int .i64 0)).drew = Wz at *
    have y0 := dz.2 0 _ rfl
    have y1 := dz.2 1 _ rfl
    have y2 := dz.2 2 _ rfl
    have y3 := dz.2 3 _ rfl
    have y4 := dz.2 4 _ rfl
    go_wp2
    exact bodyPost_ret (v := .tuple #[.agg #[.int .i64 1, .int .i64 0, .int .i64 0, .int .i64 40, .int .i64 0], .int .i64 oq.pX, .int .i64 oq.pY]) (by simp [results, Try.results54, go_sem, y0, y1, y2, y3, y4]) rfl ⟨⟨1, 0, 0, 40, 0⟩, _, _, rfl, by unfold BdA; decide, by omega, by omega, hlow⟩
  · have hpos : 1 ≤ (xs.length : Int) := by omega
    have hl12 := HS3.out.len
    go_wp2_with fail
    generalize w2.alloc (.cells #[.int .i64 oq.pX, .int .i64 oq.pY, .int .i64 oq.pTick] 30) = W3 at *
    have hne : w.heap.size ≠ w2.heap.size := by omega
    have hng : w.heap.size ≠ g1 := by have := HS3.out.own.apart g1 0 rfl (by omega); omega
    have hnc : some w2.heap.size ≠ some (w.heap.size + 1) := by simp; omega
    have bOd : Bx W3.drew w2.heap.size [.int .i64 oq.pX, .int .i64 oq.pY, .int .i64 oq.pTick] := bO
    have dd : Bx W3.drew w.heap.size [.int .i64 0, .int .i64 0, .int .i64 0, .int .i64 0, .int .i64 0] := d3
    have HSd := Lib.hid (HS3.out.below (Below.refl _ _).drew)
    have eld := Lib.hid (adl_els HSd.out)
    have o0 := bOd.2 0 _ rfl
    have o1 := bOd.2 1 _ rfl
    go_region_held3 (fun w' => w'.cell? ⟨w2.heap.size, 0, none⟩ = some (.int .i64 oq.pX) ∧ w'.cell? ⟨w2.heap.size, 1, none⟩ = some (.int .i64 oq.pY) ∧ (∀ q : Nat, q < xs.length → (w').cell? ⟨g1, q * 5, none⟩ = some (.int .i64 (atA xs q).pId)) ∧ (∀ q : Nat, q < xs.length → (w').cell? ⟨g1, q * 5 + 1, none⟩ = some (.int .i64 (atA xs q).pX)) ∧ (∀ q : Nat, q < xs.length → (w').cell? ⟨g1, q * 5 + 2, none⟩ = some (.int .i64 (atA xs q).pY)) ∧ (∀ q : Nat, q < xs.length → (w').cell? ⟨g1, q * 5 + 3, none⟩ = some (.int .i64 (atA xs q).pTick)) ∧ (∀ q : Nat, q < xs.length → (w').cell? ⟨g1, q * 5 + 4, none⟩ = some (.int .i64 (atA xs q).pError)))
      (first
        | with_reducible exact ⟨o0, o1, eld.out⟩
        | with_reducible exact ⟨f0, f1, el4.out⟩
        | exact ⟨z0, z1, elz.out⟩)
      (first
        | (go_at_call 87; (with_reducible refine (cur_pick _ B (w.heap.size + 1) _ (xs.length : Int) HSd.out.cur (by omega) (by omega) (by omega)).mono ?_); rintro e w4 ⟨r, rfl, hr0, hr1, hc, hg⟩
           have HS4 := Lib.hid (HSd.out.draw hbw hg hc); have d4 := dd.grown hg (by simp); have bO4 := bOd.grown hg hnc
           obtain ⟨q, rfl⟩ : ∃ q : Nat, r = q := ⟨r.toNat, by omega⟩
           have hql : q < xs.length := by omega
           have el4 := Lib.hid (adl_els HS4.out)
           have hbt : BdA (atA xs q) := by obtain ⟨t, ht⟩ := get_of_lt (l := xs) (k := q) hql; have e : atA xs q = t := (by rw [atA, List.getD_eq_getElem?_getD, ht]; rfl); rw [e]; exact HS4.out.bd t (List.mem_of_getElem? ht)
           have t0 := el4.out.1 q hql; have t1 := el4.out.2.1 q hql; have t2 := el4.out.2.2.1 q hql; have t3 := el4.out.2.2.2.1 q hql; have t4 := el4.out.2.2.2.2 q hql
           have f0 := bO4.2 0 _ rfl; have f1 := bO4.2 1 _ rfl
           have c0 := d4.2 0 _ rfl; have c1 := d4.2 1 _ rfl; have c2 := d4.2 2 _ rfl; have c3 := d4.2 3 _ rfl; have c4 := d4.2 4 _ rfl; have cf := d4.1.2
           have bz := bO4.other5 (g := w.heap.size) hne (.int .i64 (atA xs q).pId) (.int .i64 (atA xs q).pX) (.int .i64 (atA xs q).pY) (.int .i64 (atA xs q).pTick) (.int .i64 (atA xs q).pError)
           have z0 := bz.2 0 _ rfl; have z1 := bz.2 1 _ rfl; have elz := Lib.hid (els_put5 el4.out hng (.int .i64 (atA xs q).pId) (.int .i64 (atA xs q).pX) (.int .i64 (atA xs q).pY) (.int .i64 (atA xs q).pTick) (.int .i64 (atA xs q).pError))
           have dz := d4.put5 (.int .i64 (atA xs q).pId) (.int .i64 (atA xs q).pX) (.int .i64 (atA xs q).pY) (.int .i64 (atA xs q).pTick) (.int .i64 (atA xs q).pError)
           have hlow := below_put5 (grown_twoV HS4.out.gr) (b := w.heap.size) (Nat.le_refl _) (.int .i64 (atA xs q).pId) (.int .i64 (atA xs q).pX) (.int .i64 (atA xs q).pY) (.int .i64 (atA xs q).pTick) (.int .i64 (atA xs q).pError)))
    all_goals (
      generalize hWz : (((((w4.setCell ⟨w.heap.size, 0, none⟩ (.int .i64 (atA xs q).pId)).setCell ⟨w.heap.size, 1, none⟩ (.int .i64 (atA xs q).pX)).setCell ⟨w.heap.size, 2, none⟩ (.int .i64 (atA xs q).pY)).setCell ⟨w.heap.size, 3, none⟩ (.int .i64 (atA xs q).pTick)).setCell ⟨w.heap.size, 4, none⟩ (.int .i64 (atA xs q).pError)) = Wz at *
      have y0 := dz.2 0 _ rfl
      have y1 := dz.2 1 _ rfl
      have y2 := dz.2 2 _ rfl
      have y3 := dz.2 3 _ rfl
      have y4 := dz.2 4 _ rfl
      clear t0 t1 t2 t3 t4 c0 c1 c2 c3 c4 cf f0 f1 z0 z1
      go_wp2
      exact bodyPost_ret (v := .tuple #[aggA (atA xs q), .int .i64 oq.pX, .int .i64 oq.pY]) (by simp [results, Try.results54, go_sem, y0, y1, y2, y3, y4]) rfl ⟨atA xs q, _, _, rfl, hbt, ⟨ox0, by omega⟩, ⟨by omega, by omega⟩, hlow⟩)
set_option maxRecDepth 100000 in
set_option maxHeartbeats 2000000 in
theorem drawVF (w : World) (B : Nat) (v : Value) (h : CodeArg w B v) :
    Calls Try.prog 86 #[v] w fun e w' => ∃ (v' : Value) (xs : List GArrival) (o : GOrigin), e = .returned (.tuple #[v', aggO o]) ∧ BdO o ∧ DrAr w w' v' xs := by
  obtain ⟨h0, ao, n, cap, rfl, h2, h3⟩ := h
  have hcu := Lib.hid (cur_new1V w (.cells #[.int .i64 0, .int .i64 0, .int .i64 0] 30) B ao n cap h0 h2 h3)
  have d0 := (Bx.new w [.int .i64 0, .int .i64 0, .int .i64 0] 30).alloc (.cells #[.slice ao n cap, .int .i64 0, .int .u64 0] 106)
  have hz : w.heap.size + 2 ≤ ((w.alloc (.cells #[.int .i64 0, .int .i64 0, .int .i64 0] 30)).alloc (.cells #[.slice ao n cap, .int .i64 0, .int .u64 0] 106)).heap.size := by simp
  clear h3
  have hbw : w.heap.size + 1 < ((w.alloc (.cells #[.int .i64 0, .int .i64 0, .int .i64 0] 30)).alloc (.cells #[.slice ao n cap, .int .i64 0, .int .u64 0] 106)).heap.size := by omega
  go_enter Try.func86, Try.ntmps86
  go_wp2_with fail
  refine (cur_arrivals _ B (w.heap.size + 1) 0 hcu.out (by omega)).mono ?_
  rintro e w1 ⟨v1, xs, rfl, hS⟩
  obtain ⟨g1, cap1, rfl⟩ := hS.form
  have d1 := d0.grown hS.gr (by simp)
  have HS1 := Lib.hid hS
  have zw := hS.gr.size
  have hzx : szsArrival xs ≤ 1048576 := adl_sz hS.len
  have hwx : ∀ s ∈ xs, wfArrival s := fun s hs => (hS.bd s hs).wf
  have hop := okBg_wf xs 100
  clear hS hcu d0
  go_wp2_with fail
  refine (specBg xs _ 100 _ _ HS1.out.lst (Nat.le_refl _) hzx hwx (by unfold I64; omega)).mono ?_
  rintro e w2 ⟨v2, rfl, hV, hB⟩
  obtain rfl := hV
  have d2 := d1.below hB
  have HS2 := Lib.hid (HS1.out.below hB)
  have zb := hB.size
  clear HS1 hB d1 hzx hwx
  generalize numBg xs 100 = nb at *
  generalize resBg xs 100 = ob at *
  generalize okBg xs 100 = kb at *
  have bO := Bx.new w2 [.int .i64 ob.pX, .int .i64 ob.pY, .int .i64 ob.pTick] 30
  have d3 := d2.alloc (.cells #[.int .i64 ob.pX, .int .i64 ob.pY, .int .i64 ob.pTick] 30)
  have HS3 := Lib.hid (HS2.out.alloc (.cells #[.int .i64 ob.pX, .int .i64 ob.pY, .int .i64 ob.pTick] 30))
  cases kb
  · go_wp2_with fail
    refine (cur_quake _ B (w.heap.size + 1) _ HS3.out.cur (by omega)).mono ?_
    rintro e w3 ⟨oq, rfl, hoq, hc, hg⟩
    have HS4 := Lib.hid (HS3.out.draw hbw hg hc)
    have d4 := d3.grown hg (by simp)
    clear hc hg
    have c0 := d4.2 0 _ rfl
    have c1 := d4.2 1 _ rfl
    have c2 := d4.2 2 _ rfl
    have cf := d4.1.2
    have hD := HS4.out.drawn3 (.int .i64 oq.pX) (.int .i64 oq.pY) (.int .i64 oq.pTick)
    have dz := d4.put3 (.int .i64 oq.pX) (.int .i64 oq.pY) (.int .i64 oq.pTick)
    go_wp2
    have y0 := dz.2 0 _ rfl
    have y1 := dz.2 1 _ rfl
    have y2 := dz.2 2 _ rfl
    exact bodyPost_ret (v := .tuple #[.slice (some ⟨g1, 0, none⟩) xs.length cap1, aggO oq]) (by simp [results, Try.results86, go_sem, y0, y1, y2]) rfl ⟨_, xs, oq, rfl, hoq, hD⟩
  · go_wp2_with fail
    refine (cur_one _ B (w.heap.size + 1) _ 2 HS3.out.cur (by omega) (by omega) (by omega)).mono ?_
    rintro e w3 ⟨y, rfl, hc, hg⟩
    have HS4 := Lib.hid (HS3.out.draw hbw hg hc)
    have d4 := d3.grown hg (by simp)
    have b4 := bO.grown hg (by simp; omega)
    have hnb : w.heap.size ≠ w2.heap.size := by omega
    clear hc hg
    cases y
    · go_wp2_with fail
      refine (cur_quake _ B (w.heap.size + 1) _ HS4.out.cur (by omega)).mono ?_
      rintro e w4 ⟨oq, rfl, hoq, hc, hg⟩
      have HS5 := Lib.hid (HS4.out.draw hbw hg hc)
      have d5 := d4.grown hg (by simp)
      clear hc hg
      have c0 := d5.2 0 _ rfl
      have c1 := d5.2 1 _ rfl
      have c2 := d5.2 2 _ rfl
      have cf := d5.1.2
      have hD := HS5.out.drawn3 (.int .i64 oq.pX) (.int .i64 oq.pY) (.int .i64 oq.pTick)
      have dz := d5.put3 (.int .i64 oq.pX) (.int .i64 oq.pY) (.int .i64 oq.pTick)
      go_wp2
      have y0 := dz.2 0 _ rfl
      have y1 := dz.2 1 _ rfl
      have y2 := dz.2 2 _ rfl
      exact bodyPost_ret (v := .tuple #[.slice (some ⟨g1, 0, none⟩) xs.length cap1, aggO oq]) (by simp [results, Try.results86, go_sem, y0, y1, y2]) rfl ⟨_, xs, oq, rfl, hoq, hD⟩
    · have b0 := b4.2 0 _ rfl
      have b1 := b4.2 1 _ rfl
      have b2 := b4.2 2 _ rfl
      have q0 := d4.2 0 _ rfl
      have q1 := d4.2 1 _ rfl
      have q2 := d4.2 2 _ rfl
      have qf := d4.1.2
      have dd := d4.drwV
      have c0 := dd.2 0 _ rfl
      have c1 := dd.2 1 _ rfl
      have c2 := dd.2 2 _ rfl
      have cf := dd.1.2
      have bd := b4.drwV
      have e0 := bd.2 0 _ rfl
      have e1 := bd.2 1 _ rfl
      have e2 := bd.2 2 _ rfl
      have bz := (b4.other3 hnb (.int .i64 ob.pX) (.int .i64 ob.pY) (.int .i64 ob.pTick)).drwV
      have z0 := bz.2 0 _ rfl
      have z1 := bz.2 1 _ rfl
      have z2 := bz.2 2 _ rfl
      have hD := (HS4.out.drawn3 (.int .i64 ob.pX) (.int .i64 ob.pY) (.int .i64 ob.pTick)).drw
      have dz := (d4.put3 (.int .i64 ob.pX) (.int .i64 ob.pY) (.int .i64 ob.pTick)).drwV
      have hbo : BdO ob := by rcases hop with h | h
                              · unfold okOr at h; unfold BdO; omega
                              · rw [h]; unfold BdO; decide
      go_wp2
      go_region_held3 (fun w' => w'.cell? ⟨w2.heap.size, 0, none⟩ = some (.int .i64 ob.pX) ∧ w'.cell? ⟨w2.heap.size, 1, none⟩ = some (.int .i64 ob.pY) ∧ w'.cell? ⟨w2.heap.size, 2, none⟩ = some (.int .i64 ob.pTick))
        (first
          | with_reducible exact ⟨e0, e1, e2⟩
          | with_reducible exact ⟨b0, b1, b2⟩
          | with_reducible exact ⟨z0, z1, z2⟩)
        (fail)
      clear e0 e1 e2 b0 b1 b2 z0 z1 z2 q0 q1 q2 qf c0 c1 c2 cf bz bd dd d4 b4
      generalize (((w3.setCell ⟨w.heap.size, 0, none⟩ (.int .i64 ob.pX)).setCell ⟨w.heap.size, 1, none⟩ (.int .i64 ob.pY)).setCell ⟨w.heap.size, 2, none⟩ (.int .i64 ob.pTick)).drew = Wz at *
      have y0 := dz.2 0 _ rfl
      have y1 := dz.2 1 _ rfl
      have y2 := dz.2 2 _ rfl
      go_wp2
      exact bodyPost_ret (v := .tuple #[.slice (some ⟨g1, 0, none⟩) xs.length cap1, aggO ob]) (by simp [results, Try.results86, go_sem, y0, y1, y2]) rfl ⟨_, xs, ob, rfl, hbo, hD⟩
theorem DrAr.low3 {w w' : World} {o : Obj} {v : Value} {xs : List GArrival} (h : DrAr (w.alloc o) w' v xs) (y0 y1 y2 : Value) :
    DrAr w (((w'.setCell ⟨w.heap.size, 0, none⟩ y0).setCell ⟨w.heap.size, 1, none⟩ y1).setCell ⟨w.heap.size, 2, none⟩ y2) v xs :=
  ⟨(((h.own.setLow (p := ⟨w.heap.size, 0, none⟩) (by simp) y0).setLow (p := ⟨w.heap.size, 1, none⟩) (by simp) y1).setLow (p := ⟨w.heap.size, 2, none⟩) (by simp) y2).mono (by simp) (by simp [World.setCell]), h.len, h.bd,
    below_put3 (((Below.refl w.heap.size w).alloc (Nat.le_refl _) o).trans (h.below.mono (by simp))) (Nat.le_refl _) y0 y1 y2⟩
set_option maxRecDepth 100000 in
set_option maxHeartbeats 2000000 in
theorem drawVr (w : World) (B : Nat) (v : Value) (h : CodeArg w B v) :
    Calls Try.prog 48 #[v] w fun e w' => ∃ (v' : Value) (xs : List GArrival) (o : GOrigin), e = .returned (.tuple #[v', aggO o]) ∧ BdO o ∧ DrAr w w' v' xs := by
  have d0 := Bx.new w [.int .i64 0, .int .i64 0, .int .i64 0] 30
  have C := Lib.hid (drawVF _ B v (h.below (((Below.refl B w).alloc h.1 (.cells #[.int .i64 0, .int .i64 0, .int .i64 0] 30)))))
  obtain ⟨h0, ao, n, cap, rfl, h2, h3⟩ := h
  clear h3
  go_enter Try.func48, Try.ntmps48
  go_wp2_with fail
  refine C.out.mono ?_
  rintro e w1 ⟨v1, xs, o, rfl, hbo, hD⟩
  obtain ⟨a1, c1, rfl⟩ := hD.own.form
  have d1 := d0.below hD.below
  have c0 := d1.2 0 _ rfl
  have c1 := d1.2 1 _ rfl
  have c2 := d1.2 2 _ rfl
  have cf := d1.1.2
  have hL := hD.low3 (.int .i64 o.pX) (.int .i64 o.pY) (.int .i64 o.pTick)
  have dz := d1.put3 (.int .i64 o.pX) (.int .i64 o.pY) (.int .i64 o.pTick)
  go_wp2
  have y0 := dz.2 0 _ rfl
  have y1 := dz.2 1 _ rfl
  have y2 := dz.2 2 _ rfl
  refine bodyPost_ret (by simp [results, Try.results48, go_sem, y0, y1, y2]) rfl ⟨_, xs, o, rfl, hbo, hL⟩
set_option maxRecDepth 100000 in
set_option maxHeartbeats 2000000 in
theorem drawWo (w : World) (B : Nat) (v : Value) (h : CodeArg w B v) :
    Calls Try.prog 55 #[v] w fun e w' => ∃ (v' : Value) (xs : List GArrival) (o : GOrigin), e = .returned (.tuple #[v', aggO o]) ∧ BdO o ∧ DrAr w w' v' xs := by
  have d0 := Bx.new w [.int .i64 0, .int .i64 0, .int .i64 0] 30
  have C := Lib.hid (drawVF _ B v (h.below (((Below.refl B w).alloc h.1 (.cells #[.int .i64 0, .int .i64 0, .int .i64 0] 30)))))
  obtain ⟨h0, ao, n, cap, rfl, h2, h3⟩ := h
  clear h3
  go_enter Try.func55, Try.ntmps55
  go_wp2_with fail
  refine C.out.mono ?_
  rintro e w1 ⟨v1, xs, o, rfl, hbo, hD⟩
  obtain ⟨a1, c1, rfl⟩ := hD.own.form
  have d1 := d0.below hD.below
  have c0 := d1.2 0 _ rfl
  have c1 := d1.2 1 _ rfl
  have c2 := d1.2 2 _ rfl
  have cf := d1.1.2
  have hL := hD.low3 (.int .i64 o.pX) (.int .i64 o.pY) (.int .i64 o.pTick)
  have dz := d1.put3 (.int .i64 o.pX) (.int .i64 o.pY) (.int .i64 o.pTick)
  go_wp2
  have y0 := dz.2 0 _ rfl
  have y1 := dz.2 1 _ rfl
  have y2 := dz.2 2 _ rfl
  refine bodyPost_ret (by simp [results, Try.results55, go_sem, y0, y1, y2]) rfl ⟨_, xs, o, rfl, hbo, hL⟩
end Go.Proofs.Ytoogofceoinniab
