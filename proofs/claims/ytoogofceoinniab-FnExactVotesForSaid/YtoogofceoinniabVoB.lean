/- Votes: the specification's distances, fits and ticks. -/
import Derived.Test.YtoogofceoinniabVoA
namespace Go.Proofs.Ytoogofceoinniab
open Go.ChangeShapes Go.WideShapes Go.ChangeAt Go.RowKit Go.ChangeMaps Go.Sort
set_option linter.unusedSimpArgs false
set_option linter.unusedVariables false
set_option linter.unusedSimpArgs false
set_option linter.unusedVariables false

theorem specAskA (xs : List GArrival) (v : Value) (o : GOrigin) (u : Bool) (w : World) (B : Nat) (h : ArrivalL w B v xs) (hB : B ≤ w.heap.size) (hn : xs.length ≤ 1048576) (hu : (goodAr xs && goodOr o) = u) :
    Calls Try.prog 63 #[v, aggO o] w fun e w' => e = .returned (.bool u) ∧ Below w.heap.size w w' := by
  have hz := (Below.refl w.heap.size w).alloc (Nat.le_refl _) (objO o)
  have h1 := h.below (hz.mono hB)
  cases hg : goodAr xs with
  | false =>
    have C := Lib.hid (specGoodA xs v false _ B h1 (Nat.le_trans hB hz.size) hn hg)
    rw [hg, Bool.false_and] at hu
    subst hu
    obtain ⟨ao, cap, rfl⟩ := h.form
    clear h h1 hg
    go_enter Try.func63, Try.ntmps63
    go_wp2_with fail
    refine C.out.mono ?_
    rintro e w1 ⟨rfl, hb⟩
    go_wp2
    go_ret
    exact ⟨rfl, hz.trans (hb.mono hz.size)⟩
  | true =>
    have C := Lib.hid (specGoodA xs v true _ B h1 (Nat.le_trans hB hz.size) hn hg)
    rw [hg, Bool.true_and] at hu
    have CO := Lib.hid (fun W => specOrG o u W hu)
    have bo := Bx.new w [.int .i64 o.pX, .int .i64 o.pY, .int .i64 o.pTick] 30
    obtain ⟨ao, cap, rfl⟩ := h.form
    clear h h1 hg hu
    go_enter Try.func63, Try.ntmps63
    go_wp2_with fail
    refine C.out.mono ?_
    rintro e w1 ⟨rfl, hb⟩
    have bo1 := bo.below hb
    have o0 := bo1.2 0 _ rfl
    have o1 := bo1.2 1 _ rfl
    have o2 := bo1.2 2 _ rfl
    have N1 := hz.trans (hb.mono hz.size)
    clear hz hb bo
    go_wp2_with fail
    refine (CO.out _).mono ?_
    rintro e w2 ⟨rfl, hb2⟩
    go_wp2
    go_ret
    exact ⟨rfl, N1.trans (hb2.mono N1.size)⟩
theorem specSqV (ax ay bx by1 : Int) (r : Int) (w : World) (h1 : 0 ≤ ax ∧ ax ≤ 999) (h2 : 0 ≤ ay ∧ ay ≤ 999) (h3 : 0 ≤ bx ∧ bx ≤ 999) (h4 : 0 ≤ by1 ∧ by1 ≤ 999) (hr : sqV ax ay bx by1 = r) :
    Calls Try.prog 90 #[.int .i64 ax, .int .i64 ay, .int .i64 bx, .int .i64 by1] w fun e w' => e = .returned (.int .i64 r) ∧ w' = w := by
  obtain ⟨a1, a2⟩ := sq_bd h1 h3
  obtain ⟨b1, b2⟩ := sq_bd h2 h4
  have e0 : (ax - bx) * (ax - bx) + (ay - by1) * (ay - by1) ≤ 1996002 := by omega
  unfold sqV at hr
  obtain ⟨p, hp⟩ : ∃ p, (ax - bx) * (ax - bx) = p := ⟨_, rfl⟩
  obtain ⟨q, hq⟩ : ∃ q, (ay - by1) * (ay - by1) = q := ⟨_, rfl⟩
  have s1 : wrap64 ((ax - bx) * (ax - bx)) = p := by rw [hp] at a1 a2 ⊢; unfold wrap64; omega
  have s2 : wrap64 ((ay - by1) * (ay - by1)) = q := by rw [hq] at b1 b2 ⊢; unfold wrap64; omega
  rw [hp] at hr a1 a2
  rw [hq] at hr b1 b2
  have HR := Lib.hid hr
  clear e0 hp hq hr
  obtain ⟨h11, h12⟩ := h1
  obtain ⟨h21, h22⟩ := h2
  obtain ⟨h31, h32⟩ := h3
  obtain ⟨h41, h42⟩ := h4
  go_enter Try.func90, Try.ntmps90
  go_wp2
  go_ret
  exact ⟨ret_int HR.out, rfl⟩
theorem mul_bd2 {a : Int} {M : Int} (h0 : -M ≤ a) (h1 : a ≤ M) : 0 ≤ a * a ∧ a * a ≤ M * M := by
  have e : 0 ≤ (M - a) * (M + a) := Int.mul_nonneg (by omega) (by omega)
  have e2 : (M - a) * (M + a) = M * M - a * a := by grind
  have e3 : 0 ≤ a * a := by
    rcases Int.le_total 0 a with h | h
    · exact Int.mul_nonneg h h
    · have := Int.mul_nonneg (show 0 ≤ -a by omega) (show 0 ≤ -a by omega)
      rwa [Int.neg_mul_neg] at this
  omega
set_option maxRecDepth 100000 in
set_option maxHeartbeats 2000000 in
theorem specFit (a : GArrival) (o : GOrigin) (u : Bool) (w : World) (ha : okAr a) (ho : okOr o) (hu : fitV a o = u) :
    Calls Try.prog 59 #[aggA a, aggO o] w fun e w' => e = .returned (.bool u) ∧ Below w.heap.size w w' := by
  obtain ⟨-, ⟨hx, hy⟩, ⟨ht0, ht1⟩, ⟨he0, he1⟩⟩ := id ha
  obtain ⟨⟨ox, oy⟩, ⟨ot0, ot1⟩⟩ := id ho
  have CS := Lib.hid (fun W => specSqV a.pX a.pY o.pX o.pY _ W hx hy ox oy rfl)
  have hq := sqV_bd hx hy ox oy
  have hl : a.pTick - a.pError - o.pTick = loF a o := rfl
  have hh : a.pTick + a.pError - o.pTick = hiF a o := rfl
  unfold fitV at hu
  have lb : -1001000 ≤ loF a o ∧ loF a o ≤ 1001000 := by rw [← hl]; omega
  have hb : -1001000 ≤ hiF a o ∧ hiF a o ≤ 1001000 := by rw [← hh]; omega
  generalize loF a o = l at *
  generalize hiF a o = g at *
  generalize sqV a.pX a.pY o.pX o.pY = q at *
  obtain ⟨m1, m2⟩ := mul_bd2 lb.1 lb.2
  obtain ⟨n1, n2⟩ := mul_bd2 hb.1 hb.2
  obtain ⟨ll, hll⟩ : ∃ x, l * l = x := ⟨_, rfl⟩
  obtain ⟨gg, hgg⟩ : ∃ x, g * g = x := ⟨_, rfl⟩
  have s1 : wrap64 (l * l) = ll := by rw [hll] at m1 m2 ⊢; unfold wrap64; omega
  have s2 : wrap64 (g * g) = gg := by rw [hgg] at n1 n2 ⊢; unfold wrap64; omega
  have s3 : IntKind.i64.wrap (l * l) = ll := by rw [hll] at m1 m2 ⊢; exact IntWalk.i64_in _ (by omega)
  have s4 : IntKind.i64.wrap (g * g) = gg := by rw [hgg] at n1 n2 ⊢; exact IntWalk.i64_in _ (by omega)
  rw [hll, hgg] at hu
  have HU := Lib.hid hu
  have HLo := Lib.hid hl
  have HHi := Lib.hid hh
  have N := Lib.hid ((below_cell (w := w) (Nat.le_refl _) (objA a)).alloc (by first | omega | (simp; done) | (simp; omega)) (objO o))
  clear hu m1 m2 n1 n2 hll hgg ha ho hx hy ox oy
  have bA := (Bx.new w [.int .i64 a.pId, .int .i64 a.pX, .int .i64 a.pY, .int .i64 a.pTick, .int .i64 a.pError] 28).alloc (objO o)
  have bO := Bx.new1 w (objA a) [.int .i64 o.pX, .int .i64 o.pY, .int .i64 o.pTick] 30
  go_enter Try.func59, Try.ntmps59
  go_wp2_with fail
  refine (CS.out _).mono ?_
  rintro e w1 ⟨rfl, q1⟩
  subst q1
  have a3 := bA.2 3 _ rfl
  have a4 := bA.2 4 _ rfl
  have o2 := bO.2 2 _ rfl
  clear bA bO
  have p1 : IntKind.i64.wrap (a.pTick - a.pError) = a.pTick - a.pError := IntWalk.i64_in _ (by omega)
  have p2 : IntKind.i64.wrap (a.pTick + a.pError) = a.pTick + a.pError := IntWalk.i64_in _ (by omega)
  have p3 : IntKind.i64.wrap (a.pTick - a.pError - o.pTick) = l := by rw [hl]; exact IntWalk.i64_in _ (by omega)
  have p4 : IntKind.i64.wrap (a.pTick + a.pError - o.pTick) = g := by rw [hh]; exact IntWalk.i64_in _ (by omega)
  generalize (w.alloc (objA a)).alloc (objO o) = W at *
  clear hl hh
  go_wp2_with fail
  go_quiet (fail)
  have N := Lib.hid (drewN_b N.out nq)
  generalize W.drewN nq = W2 at *
  by_cases k1 : 0 ≤ g
  case neg =>
    have HF : Hid (false = u) := Lib.hid (by rw [← HU.out]; exact (decide_eq_false fun z => k1 z.1).symm)
    go_wp2
    go_ret
    exact ⟨ret_bool HF.out, N.out⟩
  by_cases k2 : q ≤ gg
  case neg =>
    have HF : Hid (false = u) := Lib.hid (by rw [← HU.out]; exact (decide_eq_false fun z => k2 z.2.1).symm)
    go_wp2
    go_ret
    exact ⟨ret_bool HF.out, N.out⟩
  by_cases k3 : l ≤ 0
  case pos =>
    have HF : Hid (true = u) := Lib.hid (by rw [← HU.out]; exact (decide_eq_true ⟨k1, k2, Or.inl k3⟩).symm)
    go_wp2
    go_ret
    exact ⟨ret_bool HF.out, N.out⟩
  by_cases k4 : ll ≤ q
  case pos =>
    have HF : Hid (true = u) := Lib.hid (by rw [← HU.out]; exact (decide_eq_true ⟨k1, k2, Or.inr k4⟩).symm)
    go_wp2
    go_ret
    exact ⟨ret_bool HF.out, N.out⟩
  case neg =>
    have HF : Hid (false = u) := Lib.hid (by rw [← HU.out]; exact (decide_eq_false fun z => z.2.2.elim k3 k4).symm)
    go_wp2
    go_ret
    exact ⟨ret_bool HF.out, N.out⟩
theorem specLe (x y z : Int) (w : World) (h : min x y = z) : Calls Try.prog 96 #[.int .i64 x, .int .i64 y] w fun e w' => e = .returned (.int .i64 z) ∧ w' = w := leastF x y z w h
set_option maxRecDepth 100000 in
set_option maxHeartbeats 1000000 in
theorem specRoot (n : Int) (w : World) (h0 : 0 ≤ n) (h1 : n ≤ 798400800) :
    Calls Try.prog 94 #[.int .i64 n] w fun e w' => e = .returned (.int .i64 (rootV n)) ∧ w' = w := by
  go_enter Try.func94, Try.ntmps94
  go_wp2
  go_loop [3, 4] (fun a b => ∃ l g : Nat, l ≤ g ∧ g ≤ 40000 ∧ a = .int .i64 l ∧ b = .int .i64 g ∧ Hid ((l : Int) * l ≤ n) ∧ Hid (n < ((g : Int) + 1) * ((g : Int) + 1))) (fun a b => (intOf b).toNat - (intOf a).toNat)
  case atStart => exact ⟨0, 40000, by omega, by omega, rfl, rfl, Lib.hid (by omega), Lib.hid (by omega)⟩
  case round =>
    obtain ⟨l, g, hlg, hg, rfl, rfl, HL, HG⟩ := hrel
    by_cases hlt : l < g
    case neg =>
      obtain rfl : l = g := by omega
      have HF : Hid ((l : Int) = rootV n) := Lib.hid (by rw [rootV_is h0 (by omega) HL.out HG.out])
      have hlt' : ¬ (l : Int) < (l : Int) := by omega
      go_wp2
      go_ret
      exact ⟨ret_int HF.out, rfl⟩
    obtain ⟨m, hm⟩ : ∃ m : Nat, (l + g + 1) / 2 = m := ⟨_, rfl⟩
    have hm1 : l < m := by omega
    have hm2 : m ≤ g := by omega
    have hmi : ((l : Int) + g + 1).tdiv 2 = (m : Int) := by rw [Int.tdiv_eq_ediv_of_nonneg (by omega)]; omega
    have hlt' : (l : Int) < (g : Int) := by omega
    obtain ⟨m0, m3⟩ := mul_bd2 (a := (m : Int)) (M := 40000) (by omega) (by omega)
    have HM0 : Hid (∀ x : Int, (m : Int) * m = x → wrap64 x = x ∧ IntKind.i64.wrap x = x) := Lib.hid (fun x hx => by rw [hx] at m0 m3; exact ⟨by unfold wrap64; omega, IntWalk.i64_in _ (by omega)⟩)
    obtain ⟨mm, hmm⟩ : ∃ x, (m : Int) * m = x := ⟨_, rfl⟩
    have s1 : wrap64 ((m : Int) * m) = mm := by rw [hmm]; exact (HM0.out _ hmm).1
    have HMM := Lib.hid hmm
    clear hmm m0 m3 hm
    by_cases hq : mm ≤ n
    · have HL2 : Hid ((m : Int) * m ≤ n) := Lib.hid (by rw [HMM.out]; exact hq)
      go_wp2
      go_round
      case rel => exact ⟨m, g, by omega, by omega, rfl, rfl, HL2, HG⟩
      case measure => simp [intOf]; omega
    · have HG2 : Hid (n < (((m - 1 : Nat) : Int) + 1) * (((m - 1 : Nat) : Int) + 1)) := Lib.hid (by rw [show ((m - 1 : Nat) : Int) + 1 = m by omega, HMM.out]; omega)
      go_wp2
      go_round
      case rel => exact ⟨l, m - 1, by omega, by omega, rfl, by go_num, HL, HG2⟩
      case measure => simp [intOf]; omega
end Go.Proofs.Ytoogofceoinniab
