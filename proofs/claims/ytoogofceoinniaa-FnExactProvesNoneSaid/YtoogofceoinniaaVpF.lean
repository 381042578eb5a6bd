/- Votes: the program's question whether an origin fits; who votes. -/
import Derived.Test.YtoogofceoinniaaVpE
import Derived.Test.YtoogofceoinniaaVpB
import Derived.Test.YtoogofceoinniaaAcc
import Derived.Test.YtoogofceoinniaaIns
namespace Go.Proofs.Ytoogofceoinniaa
open Go.ChangeShapes Go.WideShapes Go.ChangeAt Go.RowKit Go.ChangeMaps Go.Sort Go.Shelf
set_option linter.unusedSimpArgs false
set_option linter.unusedVariables false
set_option linter.unusedSimpArgs false
set_option linter.unusedVariables false

abbrev cloF : Nat := 130
theorem fit_enters : ∀ args w, (callFunc 130 args).run Try.prog w = .ok (.enter 130 args) w := enters_of Try.func130 (by kernel_rfl) rfl
/-- The closure: does the origin in its box fit an arrival. -/
theorem cloFit (a : GArrival) (o : GOrigin) (bo : Nat) (u : Bool) (w : World) (ha : okAr a) (ho : okOr o) (bx : Bx w bo [.int .i64 o.pX, .int .i64 o.pY, .int .i64 o.pTick]) (hu : fitV a o = u) :
    Calls Try.prog 130 #[aggA a, .pointer (some ⟨bo, 0, none⟩)] w fun e w' => e = .returned (.bool u) ∧ Below w.heap.size w w' := by
  obtain ⟨l, hl⟩ : ∃ l, loT a o.pX o.pY = l := ⟨_, rfl⟩
  obtain ⟨g, hg⟩ : ∃ g, hiT a o.pX o.pY = g := ⟨_, rfl⟩
  have CS := Lib.hid (fun W => implSpan a o.pX o.pY l g W ha ho.1.1 ho.1.2 hl hg)
  rw [fit_ticks ha ho, hl, hg] at hu
  have CH := Lib.hid (fun W => spanHas l g o.pTick u W hu)
  obtain ⟨W0, hW0⟩ : ∃ W0, w.alloc (.cells #[.int .i64 a.pId, .int .i64 a.pX, .int .i64 a.pY, .int .i64 a.pTick, .int .i64 a.pError] 77) = W0 := ⟨_, rfl⟩
  have N0 : Below w.heap.size w W0 := hW0 ▸ (Below.refl w.heap.size w).alloc (Nat.le_refl _) _
  have bA : Bx W0 w.heap.size [.int .i64 a.pId, .int .i64 a.pX, .int .i64 a.pY, .int .i64 a.pTick, .int .i64 a.pError] := hW0 ▸ Bx.new w [.int .i64 a.pId, .int .i64 a.pX, .int .i64 a.pY, .int .i64 a.pTick, .int .i64 a.pError] 77
  have bO : Bx W0 bo [.int .i64 o.pX, .int .i64 o.pY, .int .i64 o.pTick] := hW0 ▸ bx.alloc _
  have cs := fun d os => Calls.regrown_of (w := W0) (d := d) (os := os) (CS.out _)
  have ch := fun d os => Calls.regrown_of (w := W0) (d := d) (os := os) (CH.out _)
  have ra0 := cell_regrown (bA.2 0 _ rfl)
  have ra1 := cell_regrown (bA.2 1 _ rfl)
  have ra2 := cell_regrown (bA.2 2 _ rfl)
  have ra3 := cell_regrown (bA.2 3 _ rfl)
  have ra4 := cell_regrown (bA.2 4 _ rfl)
  have ro0 := cell_regrown (bO.2 0 _ rfl)
  have ro1 := cell_regrown (bO.2 1 _ rfl)
  have ro2 := cell_regrown (bO.2 2 _ rfl)
  have hlt := bO.1.1
  clear hl hg hu ha ho bx
  go_enter Try.func130, Try.ntmps130
  go_wp2_with fail
  clear hW0
  refine wp_region_quiet_below (by kernel_rfl) (by kernel_rfl) ?_
  repeat (go_big_quiet_step (first | with_reducible exact cs _ _ | with_reducible exact ch _ _))
  refine wpQuiet_nil ?_
  intro _ hw'
  obtain ⟨⟨dq, osq⟩, hw''⟩ := hw'
  subst hw''
  have hb4 := below_regrown (W0) dq osq
  generalize grow (redrawn (W0) dq) osq = w4 at *
  go_wp2
  go_ret
  exact ⟨rfl, N0.trans (hb4.mono N0.size)⟩
theorem implFitted (o : GOrigin) (w : World) :
    Calls Try.prog 108 #[aggO o] w fun e w' => ∃ b, e = .returned (.func (.func 130) #[] #[.pointer (some ⟨b, 0, none⟩)]) ∧ Bx w' b [.int .i64 o.pX, .int .i64 o.pY, .int .i64 o.pTick] ∧ w.heap.size ≤ b ∧ Below w.heap.size w w' := by
  have N := Lib.hid (below_cell (w := w) (Nat.le_refl _) (objO o))
  have bx := Bx.new w [.int .i64 o.pX, .int .i64 o.pY, .int .i64 o.pTick] 50
  go_enter Try.func108, Try.ntmps108
  go_wp2
  go_ret
  exact ⟨_, rfl, bx, Nat.le_refl _, N.out⟩
end Go.Proofs.Ytoogofceoinniaa
