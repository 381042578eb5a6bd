/- Votes: the specification's ticks at a place, whether an origin fits. -/
import Derived.Test.YtoogofceoinniaaVoB
import Derived.Test.YtoogofceoinniaaVoD
namespace Go.Proofs.Ytoogofceoinniaa
open Go.ChangeShapes Go.WideShapes Go.ChangeAt Go.RowKit Go.ChangeMaps Go.Sort
set_option linter.unusedSimpArgs false
set_option linter.unusedVariables false
set_option linter.unusedSimpArgs false
set_option linter.unusedVariables false

set_option maxRecDepth 100000 in
set_option maxHeartbeats 2000000 in
theorem specTicks (a : GArrival) (x y l g : Int) (w : World) (ha : okAr a) (hx : 0 ≤ x ∧ x ≤ 999) (hy : 0 ≤ y ∧ y ≤ 999) (hl : loT a x y = l) (hg : hiT a x y = g) :
    Calls Try.prog 109 #[aggA a, .int .i64 x, .int .i64 y] w fun e w' => e = .returned (.tuple #[.int .i64 l, .int .i64 g]) ∧ Below w.heap.size w w' := by
  obtain ⟨-, ⟨ax, ay⟩, ⟨ht0, ht1⟩, ⟨he0, he1⟩⟩ := id ha
  have CS := Lib.hid (fun W => specSqV a.pX a.pY x y _ W ax ay hx hy rfl)
  have hq := sqV_bd ax ay hx hy
  have CR := Lib.hid (fun W => specRoot _ W hq.1 hq.2)
  have hr := rootV_bd hq.1 hq.2
  unfold loT at hl
  unfold hiT at hg
  unfold upV at hg
  generalize sqV a.pX a.pY x y = q at *
  generalize rootV q = r at *
  obtain ⟨hq0, hq1⟩ := hq
  have HM := Lib.hid (fun W => mostF 0 (a.pTick - a.pError - r) l W hl)
  have HG := Lib.hid hg
  clear hl hg ha hx hy ax ay
  obtain ⟨hr1, hr2, -⟩ := hr
  obtain ⟨rr, hrr⟩ : ∃ z, (r : Int) * r = z := ⟨_, rfl⟩
  have hr0 : 0 ≤ rr := by rw [← hrr]; exact Int.mul_nonneg (by omega) (by omega)
  rw [hrr] at hr2
  have s1 : wrap64 ((r : Int) * r) = rr := by rw [hrr]; unfold wrap64; omega
  have s2 : IntKind.i64.wrap ((r : Int) * r) = rr := by rw [hrr]; exact IntWalk.i64_in _ (by omega)
  have N := Lib.hid (below_cell (w := w) (Nat.le_refl _) (objA a))
  have bA := Bx.new w [.int .i64 a.pId, .int .i64 a.pX, .int .i64 a.pY, .int .i64 a.pTick, .int .i64 a.pError] 77
  have p1 : IntKind.i64.wrap (a.pTick - a.pError) = a.pTick - a.pError := IntWalk.i64_in _ (by omega)
  have p2 : IntKind.i64.wrap (a.pTick + a.pError) = a.pTick + a.pError := IntWalk.i64_in _ (by omega)
  have p3 : IntKind.i64.wrap (a.pTick - a.pError - r) = a.pTick - a.pError - r := IntWalk.i64_in _ (by omega)
  have hg := HG.out
  rw [hrr] at hg
  clear HG hrr
  by_cases k : rr < q
  case pos =>
    rw [if_pos k] at hg
    have HL := Lib.hid (fun W => leastF 1000000 (a.pTick + a.pError - (r + 1)) g W hg)
    clear hg
    have p4 : IntKind.i64.wrap (a.pTick + a.pError - (r + 1)) = a.pTick + a.pError - (r + 1) := IntWalk.i64_in _ (by omega)
    go_enter Try.func109, Try.ntmps109
    go_wp2_with fail
    refine (CS.out _).mono ?_
    rintro e w1 ⟨rfl, q1⟩
    subst q1
    go_wp2_with fail
    refine (CR.out _).mono ?_
    rintro e w1 ⟨rfl, q1⟩
    subst q1
    have a3 := bA.2 3 _ rfl
    have a4 := bA.2 4 _ rfl
    clear bA
    generalize w.alloc (objA a) = W at *
    go_wp2_with fail
    go_quiet (first | (go_at_call 91; exact Calls.quiet_of_same (HM.out _)) | (go_at_call 110; exact Calls.quiet_of_same (HL.out _)))
    go_wp2
    go_ret2
    exact ⟨rfl, drewN_b N.out _⟩
  case neg =>
    rw [if_neg k] at hg
    have HL := Lib.hid (fun W => leastF 1000000 (a.pTick + a.pError - r) g W hg)
    clear hg
    have p4 : IntKind.i64.wrap (a.pTick + a.pError - r) = a.pTick + a.pError - r := IntWalk.i64_in _ (by omega)
    go_enter Try.func109, Try.ntmps109
    go_wp2_with fail
    refine (CS.out _).mono ?_
    rintro e w1 ⟨rfl, q1⟩
    subst q1
    go_wp2_with fail
    refine (CR.out _).mono ?_
    rintro e w1 ⟨rfl, q1⟩
    subst q1
    have a3 := bA.2 3 _ rfl
    have a4 := bA.2 4 _ rfl
    clear bA
    generalize w.alloc (objA a) = W at *
    go_wp2_with fail
    go_quiet (first | (go_at_call 91; exact Calls.quiet_of_same (HM.out _)) | (go_at_call 110; exact Calls.quiet_of_same (HL.out _)))
    go_wp2
    go_ret2
    exact ⟨rfl, drewN_b N.out _⟩
end Go.Proofs.Ytoogofceoinniaa
