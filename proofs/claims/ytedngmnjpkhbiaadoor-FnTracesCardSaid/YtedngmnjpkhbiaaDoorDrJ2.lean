/- The specification's draw for joining. -/
import Derived.Test.YtedngmnjpkhbiaaDoorDrJ
import Derived.Deep.CutBlock
import Derived.Deep.CutRange
import Derived.Deep.DeepCutAuto
namespace Go.Proofs.YtedngmnjpkhbiaaDoor
open Go.ChangeShapes Go.WideShapes Go.ChangeAt Go.RowKit Go.ChangeMaps
set_option linter.unusedSimpArgs false
set_option linter.unusedVariables false

theorem Bx.set1_cell {w : World} {b : Nat} {x y z : Value} (h : Bx w b [x, y, z]) (u : Value) : (w.setCell ⟨b, 1, none⟩ u).cell? ⟨b, 1, none⟩ = some u := (h.set1 u).2 1 _ rfl
theorem grown_b0 (w : World) (x : Option Nat) : w.grownBy w x := ⟨rfl, rfl, rfl, Nat.le_refl _, fun _ _ _ => rfl⟩
theorem grown_dr {a w : World} {x : Option Nat} (h : a.grownBy w x) : a.grownBy w.drew x := ⟨h.os, h.tape, h.output, h.size, h.block⟩
theorem bx3' {w : World} {b : Nat} {x y z : Value} (h : Bx w b [x, y, z]) : w.cell? ⟨b, 0, none⟩ = some x ∧ w.cell? ⟨b, 1, none⟩ = some y ∧ w.cell? ⟨b, 2, none⟩ = some z := ⟨h.2 0 _ rfl, h.2 1 _ rfl, h.2 2 _ rfl⟩
theorem cur_new2 (w : World) (o o2 : Obj) (B : Nat) (ao : Option Addr) (n cap : Nat) (hB : B ≤ w.heap.size) (hn : n ≤ 65536) (hc : Code w B ao n) :
    Cur (((w.alloc o).alloc o2).alloc (.cells #[.slice ao n cap, .int .i64 0, .int .u64 0] 59)) B (w.heap.size + 1 + 1) 0 := by
  have h := cur_new1 (w.alloc o) o2 B ao n cap (by simp; omega) hn (hc.keep fun bb o' hbb => ((Below.refl B w).alloc hB o).cell (p := ⟨bb, o', none⟩) hbb)
  rwa [World.size_alloc] at h
/-- The world behind the second trace's literal. -/
structure JnW (w w1 w3 : World) (B gb k : Nat) (t : Tr) (ao1 ao2 : Option Addr) (cap1 cap2 : Nat) (xs : List Int) (y z : Int) : Prop where
  bt : Bx w3 w1.heap.size [.int .i64 t.st, .int .i64 t.start, .slice ao1 t.xs.length cap1]
  bb : Bx w3 gb [.int .i64 y, .int .i64 z, .slice ao2 xs.length cap2]
  be : Bx w3 w.heap.size [.int .i64 0, .int .i64 0, .slice none 0 0]
  bf : Bx w3 (w.heap.size + 1) [.int .i64 0, .int .i64 0, .slice none 0 0]
  cu : Cur w3 B (w.heap.size + 1 + 1) k
  gr : w1.grownBy w3 (some (w.heap.size + 1 + 1))
  row : ∃ L, w1.heap.size + 1 ≤ L ∧ w3.ownsRow L 3 1 (.slice ao2 xs.length cap2) xs.length (xs.map (Value.int .i64))
  ne : ∀ g, (Value.slice ao2 xs.length cap2).ownBlock = some g → g ≠ gb
  gt : w1.heap.size < gb
  z1 : w.heap.size + 1 + 1 + 1 ≤ w1.heap.size
theorem JnW.grown {w w1 w3 w4 : World} {B gb k k' : Nat} {t : Tr} {ao1 ao2 : Option Addr} {cap1 cap2 : Nat} {xs : List Int} {y z : Int} (h : JnW w w1 w3 B gb k t ao1 ao2 cap1 cap2 xs y z)
    (hg : w3.grownBy w4 (some (w.heap.size + 1 + 1))) (hc : Cur w4 B (w.heap.size + 1 + 1) k') : JnW w w1 w4 B gb k' t ao1 ao2 cap1 cap2 xs y z := by
  obtain ⟨L, hL, hr⟩ := h.row
  have z1 := h.z1
  have z2 := h.gt
  exact ⟨h.bt.grown hg (by simp; omega), h.bb.grown hg (by simp; omega), h.be.grown hg (by simp; omega), h.bf.grown hg (by simp), hc, h.gr.trans hg, ⟨L, hL, kept_row hr hg (by omega)⟩, h.ne, h.gt, h.z1⟩
theorem JnW.set0 {w w1 w3 : World} {B gb k : Nat} {t : Tr} {ao1 ao2 : Option Addr} {cap1 cap2 : Nat} {xs : List Int} {y z : Int} (h : JnW w w1 w3 B gb k t ao1 ao2 cap1 cap2 xs y z) (u : Int) : JnW w w1 (w3.setCell ⟨gb, 0, none⟩ (.int .i64 u)) B gb k t ao1 ao2 cap1 cap2 xs u z := by
  obtain ⟨L, hL, hr⟩ := h.row
  have z1 := h.z1
  have z2 := h.gt
  exact ⟨h.bt.setOther (by simp; omega) _, h.bb.set0 _, h.be.setOther (by simp; omega) _, h.bf.setOther (by simp; omega) _, h.cu.set (by simp; omega) _, only_set h.gr (by simp; omega) _, ⟨L, hL, ownsRow_setOther hr (fun g e => (h.ne g e).symm) _⟩, h.ne, h.gt, h.z1⟩
theorem JnW.set1 {w w1 w3 : World} {B gb k : Nat} {t : Tr} {ao1 ao2 : Option Addr} {cap1 cap2 : Nat} {xs : List Int} {y z : Int} (h : JnW w w1 w3 B gb k t ao1 ao2 cap1 cap2 xs y z) (u : Int) : JnW w w1 (w3.setCell ⟨gb, 1, none⟩ (.int .i64 u)) B gb k t ao1 ao2 cap1 cap2 xs y u := by
  obtain ⟨L, hL, hr⟩ := h.row
  have z1 := h.z1
  have z2 := h.gt
  exact ⟨h.bt.setOther (by simp; omega) _, h.bb.set1 _, h.be.setOther (by simp; omega) _, h.bf.setOther (by simp; omega) _, h.cu.set (by simp; omega) _, only_set h.gr (by simp; omega) _, ⟨L, hL, ownsRow_setOther hr (fun g e => (h.ne g e).symm) _⟩, h.ne, h.gt, h.z1⟩
theorem Bx.drew' {w : World} {b : Nat} {cs : List Value} (h : Bx w b cs) : Bx w.drew b cs := h
theorem Own.drew' {α : Type} {en : α → Value} {w : World} {L U : Nat} {v : Value} {xs : List α} (h : Own en w L U v xs) : Own en w.drew L U v xs := h
theorem six_bx {w5 : World} {p q : Nat} {x0 x1 x2 y0 y1 y2 a0 a1 a2 b0 b1 b2 : Value} (h : Bx w5 p [x0, x1, x2]) (g : Bx w5 q [y0, y1, y2]) (hpq : p ≠ q) : Bx ((((((w5.setCell ⟨p, 0, none⟩ a0).setCell ⟨p, 1, none⟩ a1).setCell ⟨p, 2, none⟩ a2).setCell ⟨q, 0, none⟩ b0).setCell ⟨q, 1, none⟩ b1).setCell ⟨q, 2, none⟩ b2).drew p [a0, a1, a2] ∧ Bx ((((((w5.setCell ⟨p, 0, none⟩ a0).setCell ⟨p, 1, none⟩ a1).setCell ⟨p, 2, none⟩ a2).setCell ⟨q, 0, none⟩ b0).setCell ⟨q, 1, none⟩ b1).setCell ⟨q, 2, none⟩ b2).drew q [b0, b1, b2] :=
  ⟨Bx.drew' ((h.put3 a0 a1 a2).other3 hpq.symm b0 b1 b2), Bx.drew' ((g.other3 hpq a0 a1 a2).put3 b0 b1 b2)⟩
theorem six_below {w w5 : World} {B p q : Nat} {a0 a1 a2 b0 b1 b2 : Value} (h : Below B w w5) (hp : B ≤ p) (hq : B ≤ q) : Below B w ((((((w5.setCell ⟨p, 0, none⟩ a0).setCell ⟨p, 1, none⟩ a1).setCell ⟨p, 2, none⟩ a2).setCell ⟨q, 0, none⟩ b0).setCell ⟨q, 1, none⟩ b1).setCell ⟨q, 2, none⟩ b2).drew :=
  ((((((h.setCell hp a0).setCell hp a1).setCell hp a2).setCell hq b0).setCell hq b1).setCell hq b2).drew
theorem six_own {α : Type} {en : α → Value} {w5 : World} {L U p q : Nat} {v : Value} {xs : List α} {a0 a1 a2 b0 b1 b2 : Value} (h : Own en w5 L U v xs) (hp : p < L) (hq : q < L) : Own en ((((((w5.setCell ⟨p, 0, none⟩ a0).setCell ⟨p, 1, none⟩ a1).setCell ⟨p, 2, none⟩ a2).setCell ⟨q, 0, none⟩ b0).setCell ⟨q, 1, none⟩ b1).setCell ⟨q, 2, none⟩ b2).drew L U v xs :=
  Own.drew' ((((((h.setLow (p := ⟨p, 0, none⟩) hp a0).setLow (p := ⟨p, 1, none⟩) hp a1).setLow (p := ⟨p, 2, none⟩) hp a2).setLow (p := ⟨q, 0, none⟩) hq b0).setLow (p := ⟨q, 1, none⟩) hq b1).setLow (p := ⟨q, 2, none⟩) hq b2)
theorem TrO.drew' {w : World} {L U : Nat} {v : Value} {xs : Tr} (h : TrO w L U v xs) : TrO w.drew L U v xs := h
theorem six_tro {w5 : World} {L U p q : Nat} {v : Value} {xs : Tr} {a0 a1 a2 b0 b1 b2 : Value} (h : TrO w5 L U v xs) (hp : p < L) (hq : q < L) : TrO ((((((w5.setCell ⟨p, 0, none⟩ a0).setCell ⟨p, 1, none⟩ a1).setCell ⟨p, 2, none⟩ a2).setCell ⟨q, 0, none⟩ b0).setCell ⟨q, 1, none⟩ b1).setCell ⟨q, 2, none⟩ b2).drew L U v xs :=
  TrO.drew' ((((((h.setLow (p := ⟨p, 0, none⟩) hp a0).setLow (p := ⟨p, 1, none⟩) hp a1).setLow (p := ⟨p, 2, none⟩) hp a2).setLow (p := ⟨q, 0, none⟩) hq b0).setLow (p := ⟨q, 1, none⟩) hq b1).setLow (p := ⟨q, 2, none⟩) hq b2)
set_option maxRecDepth 100000 in
set_option maxHeartbeats 4000000 in
theorem drawJoin (w : World) (B : Nat) (v : Value) (h : CodeArg w B v) :
    Calls Tryd.prog 17 #[v] w fun e w' => ∃ (va vb : Value) (a b : Tr), e = .returned (.tuple #[va, vb]) ∧ a.xs.length ≤ 40 ∧ b.xs.length ≤ 40 ∧ TrO w' w.heap.size w'.heap.size va a ∧ TrO w' w.heap.size w'.heap.size vb b ∧ Below w.heap.size w w' := by
  obtain ⟨h0, ao, n, cap, rfl, h2, h3⟩ := h
  have e0 := ((Bx.new w [.int .i64 0, .int .i64 0, .slice none 0 0] 26).alloc (.cells #[.int .i64 0, .int .i64 0, .slice none 0 0] 26)).alloc (.cells #[.slice ao n cap, .int .i64 0, .int .u64 0] 59)
  have f0 := (Bx.new (w.alloc (.cells #[.int .i64 0, .int .i64 0, .slice none 0 0] 26)) [.int .i64 0, .int .i64 0, .slice none 0 0] 26).alloc (.cells #[.slice ao n cap, .int .i64 0, .int .u64 0] 59)
  have hcu := Lib.hid (cur_new2 w (.cells #[.int .i64 0, .int .i64 0, .slice none 0 0] 26) (.cells #[.int .i64 0, .int .i64 0, .slice none 0 0] 26) B ao n cap h0 h2 h3)
  clear h3
  go_enter Tryd.func17, Tryd.ntmps17
  go_wp2_with fail
  refine (cur_trace _ B (w.heap.size + 1 + 1) 0 hcu.out (by omega)).mono ?_
  rintro e w1 ⟨v1, t, rfl, hl, ⟨hs0, hs1⟩, ho, hc, hg⟩
  obtain ⟨ao1, cap1, rfl⟩ := ho.form
  have e1 := e0.grown hg (by simp; omega)
  have f1 : Bx w1 (w.heap.size + 1) [.int .i64 0, .int .i64 0, .slice none 0 0] := by simpa using f0.grown hg (by simp)
  have z1 : w.heap.size + 1 + 1 + 1 ≤ w1.heap.size := by have := hg.size; simpa using this
  have HG := Lib.hid hg
  have HO := Lib.hid (ho.mono (L' := w.heap.size + 1 + 1 + 1) (by simp) (Nat.le_refl _))
  have HC := Lib.hid hc
  clear hg ho hc e0 f0
  have HCB := Lib.hid (show Cur (w1.alloc (.cells #[.int .i64 t.st, .int .i64 t.start, .slice ao1 t.xs.length cap1] 26)).drew B (w.heap.size + 1 + 1) 600 from HC.out.alloc _)
  have HCA := Lib.hid (show Cur ((w1.alloc (.cells #[.int .i64 t.st, .int .i64 t.start, .slice ao1 t.xs.length cap1] 26)).alloc (.cells #[.int .i64 0, .int .i64 0, .slice none 0 0] 26)).drew B (w.heap.size + 1 + 1) 600 from (HC.out.alloc _).alloc _)
  have tB : Bx (w1.alloc (.cells #[.int .i64 t.st, .int .i64 t.start, .slice ao1 t.xs.length cap1] 26)).drew w1.heap.size [.int .i64 t.st, .int .i64 t.start, .slice ao1 t.xs.length cap1] := Bx.new w1 [.int .i64 t.st, .int .i64 t.start, .slice ao1 t.xs.length cap1] 26
  have tA : Bx ((w1.alloc (.cells #[.int .i64 t.st, .int .i64 t.start, .slice ao1 t.xs.length cap1] 26)).alloc (.cells #[.int .i64 0, .int .i64 0, .slice none 0 0] 26)).drew w1.heap.size [.int .i64 t.st, .int .i64 t.start, .slice ao1 t.xs.length cap1] := (Bx.new w1 [.int .i64 t.st, .int .i64 t.start, .slice ao1 t.xs.length cap1] 26).alloc _
  have bA : Bx ((w1.alloc (.cells #[.int .i64 t.st, .int .i64 t.start, .slice ao1 t.xs.length cap1] 26)).alloc (.cells #[.int .i64 0, .int .i64 0, .slice none 0 0] 26)).drew (w1.heap.size + 1) [.int .i64 0, .int .i64 0, .slice none 0 0] := by
    have := Bx.new (w1.alloc (.cells #[.int .i64 t.st, .int .i64 t.start, .slice ao1 t.xs.length cap1] 26)) [.int .i64 0, .int .i64 0, .slice none 0 0] 26
    rw [World.size_alloc] at this
    exact this
  have eB : Bx (w1.alloc (.cells #[.int .i64 t.st, .int .i64 t.start, .slice ao1 t.xs.length cap1] 26)).drew w.heap.size [.int .i64 0, .int .i64 0, .slice none 0 0] := e1.alloc _
  have eA : Bx ((w1.alloc (.cells #[.int .i64 t.st, .int .i64 t.start, .slice ao1 t.xs.length cap1] 26)).alloc (.cells #[.int .i64 0, .int .i64 0, .slice none 0 0] 26)).drew w.heap.size [.int .i64 0, .int .i64 0, .slice none 0 0] := (e1.alloc _).alloc _
  have fB : Bx (w1.alloc (.cells #[.int .i64 t.st, .int .i64 t.start, .slice ao1 t.xs.length cap1] 26)).drew (w.heap.size + 1) [.int .i64 0, .int .i64 0, .slice none 0 0] := f1.alloc _
  have fA : Bx ((w1.alloc (.cells #[.int .i64 t.st, .int .i64 t.start, .slice ao1 t.xs.length cap1] 26)).alloc (.cells #[.int .i64 0, .int .i64 0, .slice none 0 0] 26)).drew (w.heap.size + 1) [.int .i64 0, .int .i64 0, .slice none 0 0] := (f1.alloc _).alloc _
  have GB : w1.grownBy (w1.alloc (.cells #[.int .i64 t.st, .int .i64 t.start, .slice ao1 t.xs.length cap1] 26)).drew (some (w.heap.size + 1 + 1)) := grown_dr (grown_alloc w1 _ _)
  have GA : w1.grownBy ((w1.alloc (.cells #[.int .i64 t.st, .int .i64 t.start, .slice ao1 t.xs.length cap1] 26)).alloc (.cells #[.int .i64 0, .int .i64 0, .slice none 0 0] 26)).drew (some (w.heap.size + 1 + 1)) := grown_dr ((grown_alloc w1 _ _).trans (grown_alloc _ _ _))
  have s1 : IntKind.i64.wrap (t.start + (t.xs.length : Int)) = t.start + (t.xs.length : Int) := IntWalk.i64_in _ (by omega)
  have p0 := tB.2 0 _ rfl
  have p1 := tB.2 1 _ rfl
  have p2 := tB.2 2 _ rfl
  have q0 := tA.2 0 _ rfl
  have q1 := tA.2 1 _ rfl
  have q2 := tA.2 2 _ rfl
  clear e1 f1 hcu HC
  go_upto_region 3 with fail
  go_cut [6] from 12 to 22 (fun v wx => ∃ (gb : Nat) (xs : List Int) (ao2 : Option Addr) (cap2 : Nat), v = .pointer (some ⟨gb, 0, none⟩) ∧ xs.length ≤ 40 ∧ JnW w w1 wx B gb 1020 t ao1 ao2 cap1 cap2 xs t.st (t.start + (t.xs.length : Int)))
  case first =>
    go_wp2_with fail
    go_region_held3 (fun w' => w'.cell? ⟨w1.heap.size, 0, none⟩ = some (.int .i64 t.st) ∧ w'.cell? ⟨w1.heap.size, 1, none⟩ = some (.int .i64 t.start) ∧ w'.cell? ⟨w1.heap.size, 2, none⟩ = some (.slice ao1 t.xs.length cap1))
      (first
        | with_reducible exact ⟨p0, p1, p2⟩
        | with_reducible exact ⟨q0, q1, q2⟩
        | with_reducible exact ⟨u0, u1, u2⟩
        | with_reducible exact bx3' (t5.alloc _)
        | with_reducible exact bx3' (t5.other3 ne5 _ _ _)
        | with_reducible exact bx3' ((t5.alloc _).other3 ne5 _ _ _))
      (first
        | (go_at_call 43; (with_reducible refine (cur_samples ((w1.alloc (.cells #[.int .i64 t.st, .int .i64 t.start, .slice ao1 t.xs.length cap1] 26)).alloc (.cells #[.int .i64 0, .int .i64 0, .slice none 0 0] 26)).drew B (w.heap.size + 1 + 1) 600 HCA.out (by omega)).mono ?_); rintro e w5 ⟨v5, xs, rfl, hxl, hS⟩; have HS := Lib.hid hS; obtain ⟨ao2, cap2, rfl⟩ := hS.2.1; have g5 := hS.2.2.2.2; have t5 := tA.grown g5 (by first | omega | (simp; done) | (simp; omega)); have e5 := eA.grown g5 (by first | omega | (simp; done) | (simp; omega)); have f5 := fA.grown g5 (by first | omega | (simp; done) | (simp; omega)); have b5 := bA.grown g5 (by first | omega | (simp; done) | (simp; omega)); have x0 := b5.2 0 _ rfl; have x1 := b5.2 1 _ rfl; have x2 := b5.2 2 _ rfl; have x3 := b5.1.2; have ne5 : w1.heap.size + 1 ≠ w1.heap.size := (by omega); have G5 := GA.trans g5; have u0 := t5.2 0 _ rfl; have u1 := t5.2 1 _ rfl; have u2 := t5.2 2 _ rfl; clear hS)
        | (go_at_call 43; (with_reducible refine (cur_samples (w1.alloc (.cells #[.int .i64 t.st, .int .i64 t.start, .slice ao1 t.xs.length cap1] 26)).drew B (w.heap.size + 1 + 1) 600 HCB.out (by omega)).mono ?_); rintro e w5 ⟨v5, xs, rfl, hxl, hS⟩; have HS := Lib.hid hS; obtain ⟨ao2, cap2, rfl⟩ := hS.2.1; have g5 := hS.2.2.2.2; have t5 := tB.grown g5 (by first | omega | (simp; done) | (simp; omega)); have e5 := eB.grown g5 (by first | omega | (simp; done) | (simp; omega)); have f5 := fB.grown g5 (by first | omega | (simp; done) | (simp; omega)); have G5 := GB.trans g5; have n5 : w1.heap.size + 1 ≤ w5.heap.size := (by have := g5.size; simpa using this); have ne5 : w5.heap.size ≠ w1.heap.size := (by omega); have u0 := t5.2 0 _ rfl; have u1 := t5.2 1 _ rfl; have u2 := t5.2 2 _ rfl; clear hS))
    case' _ =>
      have hk : 600 + 20 + 10 * xs.length ≤ 1020 := by omega
      have J : JnW w w1 (w5.alloc (.cells #[.int .i64 t.st, .int .i64 (t.start + (t.xs.length : Int)), .slice ao2 xs.length cap2] 26)) B w5.heap.size 1020 t ao1 ao2 cap1 cap2 xs t.st (t.start + (t.xs.length : Int)) := ⟨t5.alloc _, Bx.new w5 [.int .i64 t.st, .int .i64 (t.start + (t.xs.length : Int)), .slice ao2 xs.length cap2] 26, e5.alloc _, f5.alloc _, (HS.out.2.2.2.1.mono hk).alloc _, G5.trans (grown_alloc _ _ _), ⟨_, by simp, HS.out.1.alloc _⟩, fun g e => by have := HS.out.1.lt g e; omega, by omega, z1⟩
      clear HCA HCB
      go_wp2
      go_meet
      exact ⟨_, xs, _, _, rfl, by omega, J⟩
    rotate_left
    case' _ =>
      have hk : 600 + 20 + 10 * xs.length ≤ 1020 := by omega
      have hne : ∀ g, (Value.slice ao2 xs.length cap2).ownBlock = some g → g ≠ w1.heap.size + 1 := fun g e => by
        have h9 := (HS.out.1.lt g e).1
        simp at h9
        omega
      have hne' : ∀ g, (Value.slice ao2 xs.length cap2).ownBlock = some g → w1.heap.size + 1 ≠ g := fun g e => (hne g e).symm
      have J : JnW w w1 (((w5.setCell ⟨w1.heap.size + 1, 0, none⟩ (.int .i64 t.st)).setCell ⟨w1.heap.size + 1, 1, none⟩ (.int .i64 (t.start + (t.xs.length : Int)))).setCell ⟨w1.heap.size + 1, 2, none⟩ (.slice ao2 xs.length cap2)) B (w1.heap.size + 1) 1020 t ao1 ao2 cap1 cap2 xs t.st (t.start + (t.xs.length : Int)) := ⟨t5.other3 ne5 _ _ _, b5.put3 _ _ _, e5.other3 (by omega) _ _ _, f5.other3 (by omega) _ _ _, (((HS.out.2.2.2.1.mono hk).set (by simp; omega) _).set (by simp; omega) _).set (by simp; omega) _, only_set (only_set (only_set G5 (by simp) _) (by simp) _) (by simp) _, ⟨_, by simp, ownsRow_setOther (ownsRow_setOther (ownsRow_setOther HS.out.1 (a := ⟨w1.heap.size + 1, 0, none⟩) hne' _) (a := ⟨w1.heap.size + 1, 1, none⟩) hne' _) (a := ⟨w1.heap.size + 1, 2, none⟩) hne' _⟩, hne, by omega, z1⟩
      clear HCA HCB
      go_wp2
      go_meet
      exact ⟨_, xs, _, _, rfl, by omega, J⟩
  case rest =>
    obtain ⟨gb, xs, ao2, cap2, rfl, hxl, hJ⟩ := hcut
    generalize wc = w3 at *
    have HJ := Lib.hid hJ
    clear hJ tA tB eA eB fA fB bA GA GB HCA HCB p0 p1 p2 q0 q1 q2
    go_upto_region 4 with fail
    go_wp2_with fail
    refine (cur_pick _ B (w.heap.size + 1 + 1) 1020 8 HJ.out.cu (by omega) (by omega) (by omega)).mono ?_
    rintro e w4 ⟨r, rfl, hr0, hr1, hc4, hg4⟩
    have HK := Lib.hid (HJ.out.grown hg4 hc4)
    clear HJ hg4 hc4
    go_upto_block 0 with fail
    go_cut [25] from 25 to 36 (fun _ wx => ∃ (y z : Int) (k : Nat), JnW w w1 wx B gb k t ao1 ao2 cap1 cap2 xs y z)
    case first =>
      by_cases h0 : r = 0
      · subst h0
        have b1 : w4.drew.cell? ⟨gb, 1, none⟩ = _ := HK.out.bb.2 1 _ rfl
        have HD := Lib.hid (HK.out.grown (grown_dr (grown_b0 w4 _)) (show Cur w4.drew B (w.heap.size + 1 + 1) 1022 from HK.out.cu))
        have HL := Lib.hid (HD.out.grown (grown_alloc w4.drew (.cells #[.int .i64 1, .int .i64 (-1)] 3) _) (show Cur (w4.drew.alloc (.cells #[.int .i64 1, .int .i64 (-1)] 3)) B (w.heap.size + 1 + 1) 1022 from HD.out.cu.alloc _))
        have l1 := HL.out.bb.2 1 _ rfl
        have hcl := HK.out.cu.lt
        have b1w := HK.out.bb.2 1 _ rfl
        have hgb : gb < w4.heap.size := HK.out.bb.1.1
        have hgb2 : gb ≠ w4.heap.size := by omega
        have hlit : OfInts (w4.drew.alloc (.cells #[.int .i64 1, .int .i64 (-1)] 3)) (w.heap.size + 1 + 1) (.slice (some ⟨w4.heap.size, 0, none⟩) 2 2) [1, -1]   := ints_lit w4.drew (w.heap.size + 1 + 1) hcl 3 2 [1, -1]
        go_wp2_with fail
        go_region_with (first
            | (go_at_call 44; refine (cur_among (w4.drew.alloc (.cells #[.int .i64 1, .int .i64 (-1)] 3)) B (w.heap.size + 1 + 1) 1022 HL.out.cu (by omega) _ _ hlit (by simp) (by simp)).mono ?_; rintro e w7 ⟨c, rfl, hx, hc7, hg7⟩; have hcc : -1 ≤ c ∧ c ≤ 1 := (by revert c; decide); have HM := Lib.hid (HL.out.grown hg7 hc7); have m1 := HM.out.bb.2 1 _ rfl; have mf := HM.out.bb.1.2; have s9 : IntKind.i64.wrap (t.start + (t.xs.length : Int) + c) = t.start + (t.xs.length : Int) + c := IntWalk.i64_in _ (by omega)))
        all_goals
          have HF := HM.out.set1 (t.start + (t.xs.length : Int) + c)
          clear HM HL HD HK hlit b1 b1w l1 m1 mf hcl hgb hgb2
          go_wp2
          go_meet
          exact ⟨_, _, _, HF⟩
      · by_cases h1 : r = 1
        · subst h1
          have b0 := HK.out.bb.2 0 _ rfl
          have bf := HK.out.bb.1.2
          have HF := HK.out.set0 5
          go_wp2
          go_meet
          exact ⟨_, _, _, HF⟩
        · have h0b : (r == 0) = false := by simpa using h0
          have h1b : (r == 1) = false := by simpa using h1
          go_wp2
          go_meet
          exact ⟨_, _, _, HK.out⟩
    case rest =>
      obtain ⟨y, z, k9, hF⟩ := hcut
      generalize wc = w5 at *
      have HF := Lib.hid hF
      clear hF HK hr0 hr1
      have t0 := HF.out.bt.2 0 _ rfl
      have t1 := HF.out.bt.2 1 _ rfl
      have t2 := HF.out.bt.2 2 _ rfl
      have u0 := HF.out.bb.2 0 _ rfl
      have u1 := HF.out.bb.2 1 _ rfl
      have u2 := HF.out.bb.2 2 _ rfl
      have x0 := HF.out.be.2 0 _ rfl
      have x1 := HF.out.be.2 1 _ rfl
      have x2 := HF.out.be.2 2 _ rfl
      have x3 := HF.out.be.1.2
      have v0 := HF.out.bf.2 0 _ rfl
      have v1 := HF.out.bf.2 1 _ rfl
      have v2 := HF.out.bf.2 2 _ rfl
      have v3 := HF.out.bf.1.2
      have ne1 := HF.out.gt
      have ne2 := HF.out.z1
      have ne3 : ¬ w.heap.size = gb := by omega
      have ne4 : ¬ w.heap.size + 1 = gb := by omega
      have ne5 : ¬ w.heap.size = w1.heap.size := by omega
      have ne6 : ¬ w.heap.size + 1 = w1.heap.size := by omega
      have ne7 : ¬ w1.heap.size = gb := by omega
      have GB := Lib.hid (six_bx (a0 := .int .i64 t.st) (a1 := .int .i64 t.start) (a2 := .slice ao1 t.xs.length cap1) (b0 := .int .i64 y) (b1 := .int .i64 z) (b2 := .slice ao2 xs.length cap2) HF.out.be HF.out.bf (by omega))
      obtain ⟨L, hL, hr⟩ := HF.out.row
      have GG := HF.out.gr
      have zG := GG.size
      have hO := HO.out.grown GG (by omega)
      have hR := Own.of_row hr
      have hBl := (((((Below.refl w.heap.size w).alloc (Nat.le_refl _) (.cells #[.int .i64 0, .int .i64 0, .slice none 0 0] 26)).alloc (by simp) (.cells #[.int .i64 0, .int .i64 0, .slice none 0 0] 26)).alloc (by simp; omega) (.cells #[.slice ao n cap, .int .i64 0, .int .u64 0] 59)).grown HG.out (by simp; omega) (fun g e => by cases e; omega)).grown GG (by omega) (fun g e => by cases e; omega)
      have k9 : w1.heap.size ≤ w5.heap.size := zG
      have K1 := Lib.hid (six_tro (p := w.heap.size) (q := w.heap.size + 1) (a0 := .int .i64 t.st) (a1 := .int .i64 t.start) (a2 := .slice ao1 t.xs.length cap1) (b0 := .int .i64 y) (b1 := .int .i64 z) (b2 := .slice ao2 xs.length cap2) hO (by omega) (by omega))
      have K2 := Lib.hid (six_own (p := w.heap.size) (q := w.heap.size + 1) (a0 := .int .i64 t.st) (a1 := .int .i64 t.start) (a2 := .slice ao1 t.xs.length cap1) (b0 := .int .i64 y) (b1 := .int .i64 z) (b2 := .slice ao2 xs.length cap2) hR (by omega) (by omega))
      have K3 := Lib.hid (six_below (p := w.heap.size) (q := w.heap.size + 1) (a0 := .int .i64 t.st) (a1 := .int .i64 t.start) (a2 := .slice ao1 t.xs.length cap1) (b0 := .int .i64 y) (b1 := .int .i64 z) (b2 := .slice ao2 xs.length cap2) hBl (by omega) (by omega))
      clear hO hR hBl GG hr
      go_upto_region 9 with fail
      go_region
      clear t0 t1 t2 u0 u1 u2 x0 x1 x2 x3 v0 v1 v2 v3
      have K9 : w1.heap.size ≤ ((((((w5.setCell ⟨w.heap.size, 0, none⟩ (.int .i64 t.st)).setCell ⟨w.heap.size, 1, none⟩ (.int .i64 t.start)).setCell ⟨w.heap.size, 2, none⟩ (.slice ao1 t.xs.length cap1)).setCell ⟨w.heap.size + 1, 0, none⟩ (.int .i64 y)).setCell ⟨w.heap.size + 1, 1, none⟩ (.int .i64 z)).setCell ⟨w.heap.size + 1, 2, none⟩ (.slice ao2 xs.length cap2)).drew.heap.size := (by simpa [World.setCell] using k9)
      have K8 : w5.heap.size ≤ ((((((w5.setCell ⟨w.heap.size, 0, none⟩ (.int .i64 t.st)).setCell ⟨w.heap.size, 1, none⟩ (.int .i64 t.start)).setCell ⟨w.heap.size, 2, none⟩ (.slice ao1 t.xs.length cap1)).setCell ⟨w.heap.size + 1, 0, none⟩ (.int .i64 y)).setCell ⟨w.heap.size + 1, 1, none⟩ (.int .i64 z)).setCell ⟨w.heap.size + 1, 2, none⟩ (.slice ao2 xs.length cap2)).drew.heap.size := (by simp [World.setCell])
      revert GB K1 K2 K3 K9 K8
      generalize ((((((w5.setCell ⟨w.heap.size, 0, none⟩ (.int .i64 t.st)).setCell ⟨w.heap.size, 1, none⟩ (.int .i64 t.start)).setCell ⟨w.heap.size, 2, none⟩ (.slice ao1 t.xs.length cap1)).setCell ⟨w.heap.size + 1, 0, none⟩ (.int .i64 y)).setCell ⟨w.heap.size + 1, 1, none⟩ (.int .i64 z)).setCell ⟨w.heap.size + 1, 2, none⟩ (.slice ao2 xs.length cap2)).drew = W6
      intro GB K1 K2 K3 K9 K8
      have x0 := GB.out.1.2 0 _ rfl
      have x1 := GB.out.1.2 1 _ rfl
      have x2 := GB.out.1.2 2 _ rfl
      have v0 := GB.out.2.2 0 _ rfl
      have v1 := GB.out.2.2 1 _ rfl
      have v2 := GB.out.2.2 2 _ rfl
      go_wp2
      refine bodyPost_ret (v := .tuple #[.agg #[.int .i64 t.st, .int .i64 t.start, .slice ao1 t.xs.length cap1], .agg #[.int .i64 y, .int .i64 z, .slice ao2 xs.length cap2]]) (by simp [results, Tryd.results17, go_sem, x0, x1, x2, v0, v1, v2]) rfl ⟨_, _, t, ⟨y, z, xs⟩, rfl, hl, hxl, K1.out.mono (by omega) K9, ⟨_, rfl, K2.out.mono (by omega) K8⟩, K3.out⟩
end Go.Proofs.YtedngmnjpkhbiaaDoor
