/- Location by boxes: the program's tests, reach, possible cubes. -/
import Derived.Test.YtoogofceoinniaaLoB
import Derived.Test.YtoogofceoinniaaVpC
import Derived.Test.YtoogofceoinniaaVpB
namespace Go.Proofs.Ytoogofceoinniaa
open Go.ChangeShapes Go.WideShapes Go.ChangeAt Go.RowKit Go.ChangeMaps Go.Sort
set_option linter.unusedSimpArgs false
set_option linter.unusedVariables false
set_option linter.unusedSimpArgs false
set_option linter.unusedVariables false

set_option maxRecDepth 100000 in
theorem div_side : ∀ i : Fin 513, 1 ≤ i.val → 512 % i.val = 0 → i.val = 1 ∨ i.val = 2 ∨ i.val = 4 ∨ i.val = 8 ∨ i.val = 16 ∨ i.val = 32 ∨ i.val = 64 ∨ i.val = 128 ∨ i.val = 256 ∨ i.val = 512 := by decide +kernel
theorem sideB_div (s : Int) : sideB s = (decide (1 ≤ s ∧ s ≤ 512) && decide ((512 : Int) % s = 0)) := by
  rw [Bool.eq_iff_iff, sideB_iff, Bool.and_eq_true, decide_eq_true_eq, decide_eq_true_eq]
  constructor
  · intro h
    refine ⟨okSide_bd h, ?_⟩
    rw [okSide_iff] at h
    rcases h with rfl | rfl | rfl | rfl | rfl | rfl | rfl | rfl | rfl | rfl <;> decide
  · rintro ⟨h, g⟩
    obtain ⟨n, rfl⟩ : ∃ n : Nat, s = (n : Int) := ⟨s.toNat, by omega⟩
    have g2 : 512 % n = 0 := by
      have h9 : ((512 % n : Nat) : Int) = 0 := by rw [Int.natCast_emod]; exact g
      omega
    have := div_side ⟨n, by omega⟩ (by show 1 ≤ n; omega) g2
    rw [okSide_iff]
    simp only at this
    omega
set_option maxHeartbeats 1000000 in
theorem implSide (s : Int) (u : Bool) (w : World) (hu : sideB s = u) :
    Calls Try.prog 49 #[.int .i64 s] w fun e w' => e = .returned (.bool u) ∧ Below w.heap.size w w' := by
  rw [sideB_div] at hu
  have N := Lib.hid (below_cell (w := w) (Nat.le_refl _) (.cells #[.int .i64 s] 3))
  by_cases h : 1 ≤ s ∧ s ≤ 512
  case neg =>
    have CI := Lib.hid (withinOneV 1 512 s _ false _ (Bx.new w [.int .i64 s] 3) (decide_eq_false h))
    have HF : Hid (false = u) := Lib.hid (by rw [← hu, decide_eq_false h]; rfl)
    clear hu h
    go_enter Try.func49, Try.ntmps49
    go_wp2_with fail
    refine CI.out.mono ?_
    rintro e w9 ⟨rfl, q9⟩
    subst q9
    go_wp2
    go_ret
    exact ⟨ret_bool HF.out, N.out⟩
  case pos =>
    have CI := Lib.hid (withinOneV 1 512 s _ true _ (Bx.new w [.int .i64 s] 3) (decide_eq_true h))
    have s0 : ¬ s = 0 := by omega
    obtain ⟨h1, h2⟩ := h
    by_cases g : (512 : Int) % s = 0
    case pos =>
      have HF : Hid (true = u) := Lib.hid (by rw [← hu, decide_eq_true g, decide_eq_true ⟨h1, h2⟩]; rfl)
      clear hu
      go_enter Try.func49, Try.ntmps49
      go_wp2_with fail
      refine CI.out.mono ?_
      rintro e w9 ⟨rfl, q9⟩
      subst q9
      go_wp2
      go_ret
      exact ⟨ret_bool HF.out, N.out⟩
    case neg =>
      have HF : Hid (false = u) := Lib.hid (by rw [← hu, decide_eq_false g, Bool.and_false])
      have g2 : ((512 : Int) % s == 0) = false := by simpa using g
      clear hu
      go_enter Try.func49, Try.ntmps49
      go_wp2_with fail
      refine CI.out.mono ?_
      rintro e w9 ⟨rfl, q9⟩
      subst q9
      go_wp2
      go_ret
      exact ⟨ret_bool HF.out, N.out⟩
set_option maxRecDepth 100000 in
set_option maxHeartbeats 4000000 in
theorem implGoodCb (b : GCube) (u : Bool) (w : World) (hu : goodCb b = u) :
    Calls Try.prog 15 #[aggCb b] w fun e w' => e = .returned (.bool u) ∧ Below w.heap.size w w' := by
  rw [goodCb_eq] at hu
  generalize h0 : sideB b.pSide = b0 at hu
  generalize h1 : plcB b.pWest b.pSouth = b1 at hu
  generalize h2 : inB b.pFrom 0 1000000 = b2 at hu
  generalize h3 : inB b.pTo 0 1000000 = b3 at hu
  have H0 := Lib.hid h0
  have H1 := Lib.hid h1
  have H2 := Lib.hid h2
  have H3 := Lib.hid h3
  have HU := Lib.hid hu
  clear hu h0 h1 h2 h3
  have N := below_cube (w := w) (Nat.le_refl _) (objCb b)
  have bB := Bx.new w [.int .i64 b.pWest, .int .i64 b.pSouth, .int .i64 b.pSide, .int .i64 b.pFrom, .int .i64 b.pTo] 25
  go_enter Try.func15, Try.ntmps15
  go_wp2_with fail
  refine (implSide _ b0 _ H0.out).mono ?_
  rintro e w1 ⟨rfl, hb⟩
  have bB1 := bB.below hb
  have N1 := N.trans (hb.mono N.size)
  have e0 := bB1.2 0 _ rfl
  have e1 := bB1.2 1 _ rfl
  have e2 := bB1.2 2 _ rfl
  have e3 := bB1.2 3 _ rfl
  have e4 := bB1.2 4 _ rfl
  clear bB1 bB hb N
  cases b0
  case false =>
    have HF : Hid (false = u) := Lib.hid (by rw [← HU.out]; simp)
    go_wp2
    go_ret
    exact ⟨ret_bool HF.out, N1⟩
  have sb := okSide_bd (sideB_yes H0.out)
  go_wp2_with fail
  refine (implPlace _ _ b1 _ H1.out).mono ?_
  rintro e w' ⟨rfl, q9⟩
  subst q9
  cases b1
  case false =>
    have HF : Hid (false = u) := Lib.hid (by rw [← HU.out]; simp)
    go_wp2
    go_ret
    exact ⟨ret_bool HF.out, N1⟩
  have pb := plcB_iff.1 H1.out
  have s0 : ¬ b.pSide = 0 := by omega
  by_cases g1 : b.pWest % b.pSide = 0
  case neg =>
    have HF : Hid (false = u) := Lib.hid (by rw [← HU.out]; unfold modB; rw [decide_eq_false g1]; simp)
    go_wp2
    go_ret
    exact ⟨ret_bool HF.out, N1⟩
  by_cases g2 : b.pSouth % b.pSide = 0
  case neg =>
    have HF : Hid (false = u) := Lib.hid (by rw [← HU.out]; unfold modB; rw [decide_eq_true g1, decide_eq_false g2]; simp)
    go_wp2
    go_ret
    exact ⟨ret_bool HF.out, N1⟩
  have HG := Lib.hid (show modB b.pWest b.pSide = true ∧ modB b.pSouth b.pSide = true from ⟨decide_eq_true g1, decide_eq_true g2⟩)
  go_wp2_with fail
  refine (implTick _ b2 _ H2.out).mono ?_
  rintro e w' ⟨rfl, q9⟩
  subst q9
  cases b2
  case false =>
    have HF : Hid (false = u) := Lib.hid (by rw [← HU.out, HG.out.1, HG.out.2]; simp)
    go_wp2
    go_ret
    exact ⟨ret_bool HF.out, N1⟩
  go_wp2_with fail
  refine (implTick _ b3 _ H3.out).mono ?_
  rintro e w' ⟨rfl, q9⟩
  subst q9
  cases b3
  case false =>
    have HF : Hid (false = u) := Lib.hid (by rw [← HU.out, HG.out.1, HG.out.2]; simp)
    go_wp2
    go_ret
    exact ⟨ret_bool HF.out, N1⟩
  have HF : Hid (decide (b.pFrom ≤ b.pTo) = u) := Lib.hid (by rw [← HU.out, HG.out.1, HG.out.2]; simp)
  go_wp2
  go_ret
  exact ⟨ret_bool HF.out, N1⟩
set_option maxHeartbeats 1000000 in
theorem implAlong (low side x p q : Int) (w : World) (hx : 0 ≤ x ∧ x ≤ 999) (hl : 0 ≤ low ∧ low ≤ 999) (hs : 1 ≤ side ∧ side ≤ 512) (hp : nearC x low side = p) (hq : farC x low side = q) :
    Calls Try.prog 97 #[.int .i64 low, .int .i64 side, .int .i64 x] w fun e w' => e = .returned (.tuple #[.int .i64 p, .int .i64 q]) ∧ w' = w := by
  obtain ⟨x0, x1⟩ := hx
  obtain ⟨l0, l1⟩ := hl
  obtain ⟨s0, s1⟩ := hs
  have HP := Lib.hid hp
  have HQ := Lib.hid hq
  clear hp hq
  go_enter Try.func97, Try.ntmps97
  go_wp2
  all_goals go_ret2
  all_goals exact ⟨ret2i (by rw [← HP.out]; unfold nearC; omega) (by rw [← HQ.out]; unfold farC; omega), rfl⟩
theorem implSqWide (dx dy r : Int) (w : World) (h0 : 0 ≤ dx ∧ dx ≤ 2000) (h1 : 0 ≤ dy ∧ dy ≤ 2000) (hr : dx * dx + dy * dy = r) :
    Calls Try.prog 98 #[.int .i64 dx, .int .i64 dy] w fun e w' => e = .returned (.int .i64 r) ∧ w' = w := by
  obtain ⟨a1, a2⟩ := sq_cap h0.1 h0.2
  obtain ⟨b1, b2⟩ := sq_cap h1.1 h1.2
  obtain ⟨p, hp⟩ : ∃ p, dx * dx = p := ⟨_, rfl⟩
  obtain ⟨q, hq⟩ : ∃ q, dy * dy = q := ⟨_, rfl⟩
  have s1 : wrap64 (dx * dx) = p := by rw [hp] at a1 a2 ⊢; unfold wrap64; omega
  have s2 : wrap64 (dy * dy) = q := by rw [hq] at b1 b2 ⊢; unfold wrap64; omega
  rw [hp] at hr a1 a2
  rw [hq] at hr b1 b2
  have HR := Lib.hid hr
  clear hp hq hr
  go_enter Try.func98, Try.ntmps98
  go_wp2
  go_ret
  exact ⟨ret_int HR.out, rfl⟩
set_option maxRecDepth 100000 in
set_option maxHeartbeats 2000000 in
theorem implReach (b : GCube) (x y l g : Int) (w : World) (hb : okCb b) (hx : 0 ≤ x ∧ x ≤ 999) (hy : 0 ≤ y ∧ y ≤ 999) (hl : loR b x y = l) (hg : hiR b x y = g) :
    Calls Try.prog 54 #[aggCb b, .int .i64 x, .int .i64 y] w fun e w' => e = .returned (.tuple #[.int .i64 l, .int .i64 g]) ∧ Below w.heap.size w w' := by
  have sb := okSide_bd hb.1
  have pp := nearC_bd hx hb.2.1.1 sb
  have qq := nearC_bd hy hb.2.1.2 sb
  unfold loR at hl
  unfold hiR at hg
  obtain ⟨p, hp⟩ : ∃ p, nearC x b.pWest b.pSide = p := ⟨_, rfl⟩
  obtain ⟨q, hq⟩ : ∃ q, farC x b.pWest b.pSide = q := ⟨_, rfl⟩
  obtain ⟨u, hu⟩ : ∃ u, nearC y b.pSouth b.pSide = u := ⟨_, rfl⟩
  obtain ⟨v, hv⟩ : ∃ v, farC y b.pSouth b.pSide = v := ⟨_, rfl⟩
  have C1 := Lib.hid (fun W => implAlong b.pWest b.pSide x p q W hx hb.2.1.1 sb hp hq)
  have C2 := Lib.hid (fun W => implAlong b.pSouth b.pSide y u v W hy hb.2.1.2 sb hu hv)
  rw [hp, hu] at hl
  rw [hq, hv] at hg
  rw [hp, hq] at pp
  rw [hu, hv] at qq
  obtain ⟨⟨p0, p1⟩, ⟨p2, p3⟩, -⟩ := pp
  obtain ⟨⟨u0, u1⟩, ⟨u2, u3⟩, -⟩ := qq
  have C3 := Lib.hid (fun W => implSqWide p u l W (by omega) (by omega) hl)
  have C4 := Lib.hid (fun W => implSqWide q v g W (by omega) (by omega) hg)
  have N := Lib.hid (below_cube (w := w) (Nat.le_refl _) (objCb b))
  clear hl hg hp hq hu hv hb hx hy sb
  go_enter Try.func54, Try.ntmps54
  go_wp2_with fail
  refine (C1.out _).mono ?_
  rintro e w1 ⟨rfl, q1⟩
  subst q1
  go_wp2_with fail
  refine (C2.out _).mono ?_
  rintro e w1 ⟨rfl, q1⟩
  subst q1
  go_wp2_with fail
  refine (C3.out _).mono ?_
  rintro e w1 ⟨rfl, q1⟩
  subst q1
  go_wp2_with fail
  refine (C4.out _).mono ?_
  rintro e w1 ⟨rfl, q1⟩
  subst q1
  go_wp2
  go_ret2
  exact ⟨rfl, N.out⟩
set_option maxRecDepth 100000 in
set_option maxHeartbeats 2000000 in
theorem implRc (b : GCube) (v : Value) (x y : Int) (w : World) (B : Nat) (h : CubeVL w B v b) (hB : B ≤ w.heap.size) (_ : sz1Cube b ≤ 1048576) (hw : wfCube b) (_ : I64 x) (_ : I64 y) :
    Calls Try.prog 17 #[v, .int .i64 x, .int .i64 y] w fun e w' => e = .returned (.tuple #[.int .i64 (loRc b x y), .int .i64 (hiRc b x y), .bool (okRc b x y)]) ∧ Below w.heap.size w w' := by
  obtain rfl := h.form
  clear h
  have N1 := (Below.refl w.heap.size w).alloc (Nat.le_refl _) (objCb b)
  have bB := Bx.new w [.int .i64 b.pWest, .int .i64 b.pSouth, .int .i64 b.pSide, .int .i64 b.pFrom, .int .i64 b.pTo] 25
  cases h1 : goodCb b with
  | false =>
    have C1 := Lib.hid (fun W => implGoodCb b false W h1)
    have e : okRc b x y = false := by unfold okRc; rw [h1]; rfl
    have HF := Lib.hid (no3i (loRc_no e) (hiRc_no e) e)
    clear h1 e bB
    go_enter Try.func17, Try.ntmps17
    go_wp2_with fail
    refine (C1.out _).mono ?_
    rintro e w1 ⟨rfl, hb⟩
    go_wp2
    go_ret3
    exact ⟨HF.out, N1.trans (hb.mono N1.size)⟩
  | true =>
  have C1 := Lib.hid (fun W => implGoodCb b true W h1)
  cases h2 : plcB x y with
  | false =>
    have C2 := Lib.hid (fun W => implPlace x y false W h2)
    have e : okRc b x y = false := by unfold okRc; rw [h2, Bool.and_false]
    have HF := Lib.hid (no3i (loRc_no e) (hiRc_no e) e)
    clear h1 h2 e bB
    go_enter Try.func17, Try.ntmps17
    go_wp2_with fail
    refine (C1.out _).mono ?_
    rintro e w1 ⟨rfl, hb⟩
    have N2 := N1.trans (hb.mono N1.size)
    go_wp2_with fail
    refine (C2.out _).mono ?_
    rintro e w2 ⟨rfl, q2⟩
    subst q2
    go_wp2
    go_ret3
    exact ⟨HF.out, N2⟩
  | true =>
  have C2 := Lib.hid (fun W => implPlace x y true W h2)
  have e : okRc b x y = true := by unfold okRc; rw [h1, h2]; rfl
  have CR := Lib.hid (fun W => implReach b x y _ _ W (okRc_yes e).1 (okRc_yes e).2.1 (okRc_yes e).2.2 rfl rfl)
  have HF := Lib.hid (yes3i (loRc_yes e) (hiRc_yes e) e)
  clear h1 h2 e
  go_enter Try.func17, Try.ntmps17
  go_wp2_with fail
  refine (C1.out _).mono ?_
  rintro e w1 ⟨rfl, hb⟩
  have N2 := N1.trans (hb.mono N1.size)
  have bB1 := bB.below hb
  clear hb bB
  go_wp2_with fail
  refine (C2.out _).mono ?_
  rintro e w2 ⟨rfl, q2⟩
  subst q2
  have a0 := bB1.2 0 _ rfl
  have a1 := bB1.2 1 _ rfl
  have a2 := bB1.2 2 _ rfl
  have a3 := bB1.2 3 _ rfl
  have a4 := bB1.2 4 _ rfl
  clear bB1
  go_wp2_with fail
  refine (CR.out _).mono ?_
  rintro e w3 ⟨rfl, hb⟩
  have N3 := N2.trans (hb.mono N2.size)
  go_wp2
  go_ret3
  exact ⟨HF.out, N3⟩
set_option maxRecDepth 100000 in
set_option maxHeartbeats 4000000 in
theorem implIn (a : GArrival) (b : GCube) (u : Bool) (w : World) (ha : okAr a) (hb : okCb b) (hu : canC a b = u) :
    Calls Try.prog 100 #[aggA a, aggCb b] w fun e w' => e = .returned (.bool u) ∧ Below w.heap.size w w' := by
  obtain ⟨-, ⟨hx, hy⟩, ⟨ht0, ht1⟩, ⟨he0, he1⟩⟩ := id ha
  obtain ⟨⟨f0, f1⟩, ⟨t0, t1⟩, -⟩ := hb.2.2.2
  obtain ⟨l, hl⟩ : ∃ l, loR b a.pX a.pY = l := ⟨_, rfl⟩
  obtain ⟨g, hg⟩ : ∃ g, hiR b a.pX a.pY = g := ⟨_, rfl⟩
  have hrb := reach_bd hb hx hy
  rw [hl, hg] at hrb
  obtain ⟨r0, r1, r2⟩ := hrb
  have CR := Lib.hid (fun W => implReach b a.pX a.pY l g W hb hx hy hl hg)
  have CL := Lib.hid (fun W => implTime l _ W (by omega) (by omega) rfl)
  have CG := Lib.hid (fun W => implTime g _ W (by omega) (by omega) rfl)
  have HLO := Lib.hid hl
  have HHI := Lib.hid hg
  have HU := Lib.hid hu
  have N := ((below_cell (w := w) (Nat.le_refl _) (objA a)).alloc (by first | omega | (simp; done) | (simp; omega)) (objCb b))
  have bA := (Bx.new w [.int .i64 a.pId, .int .i64 a.pX, .int .i64 a.pY, .int .i64 a.pTick, .int .i64 a.pError] 77).alloc (objCb b)
  have bB := Bx.new1 w (objA a) [.int .i64 b.pWest, .int .i64 b.pSouth, .int .i64 b.pSide, .int .i64 b.pFrom, .int .i64 b.pTo] 25
  obtain ⟨z, hz⟩ : ∃ z, a.pTick + a.pError - b.pFrom = z := ⟨_, rfl⟩
  obtain ⟨f, hf⟩ : ∃ f, a.pTick - a.pError - b.pTo = f := ⟨_, rfl⟩
  have zb : -1001000 ≤ z ∧ z ≤ 1001000 := by omega
  have fb : -1001000 ≤ f ∧ f ≤ 1001000 := by omega
  obtain ⟨zz, hzz⟩ : ∃ q, z * z = q := ⟨_, rfl⟩
  obtain ⟨ff, hff⟩ : ∃ q, f * f = q := ⟨_, rfl⟩
  have m1 := mul_bd2 zb.1 zb.2
  have m2 := mul_bd2 fb.1 fb.2
  rw [hzz] at m1
  rw [hff] at m2
  obtain ⟨z0', z1'⟩ := zb
  obtain ⟨f0', f1'⟩ := fb
  have p1 : IntKind.i64.wrap (a.pTick - a.pError) = a.pTick - a.pError := IntWalk.i64_in _ (by omega)
  have p2 : IntKind.i64.wrap (a.pTick + a.pError) = a.pTick + a.pError := IntWalk.i64_in _ (by omega)
  have p3 : IntKind.i64.wrap (a.pTick + a.pError - b.pFrom) = z := by rw [hz]; exact IntWalk.i64_in _ (by omega)
  have p4 : IntKind.i64.wrap (a.pTick - a.pError - b.pTo) = f := by rw [hf]; exact IntWalk.i64_in _ (by omega)
  have s1 : wrap64 (z * z) = zz := by rw [hzz]; unfold wrap64; omega
  have s2 : wrap64 (f * f) = ff := by rw [hff]; unfold wrap64; omega
  have q1 : wrap64 (a.pTick + a.pError - b.pFrom) = z := by rw [hz]; unfold wrap64; omega
  have q2 : wrap64 (a.pTick - a.pError - b.pTo) = f := by rw [hf]; unfold wrap64; omega
  have HZ := Lib.hid hz
  have HF := Lib.hid hf
  have HZZ := Lib.hid hzz
  have HFF := Lib.hid hff
  clear hz hf hzz hff hl hg hu ha hb hx hy
  have a0 := bA.2 0 _ rfl
  have a1 := bA.2 1 _ rfl
  have a2 := bA.2 2 _ rfl
  have a3 := bA.2 3 _ rfl
  have a4 := bA.2 4 _ rfl
  have b0 := bB.2 0 _ rfl
  have b1 := bB.2 1 _ rfl
  have b2 := bB.2 2 _ rfl
  have b3 := bB.2 3 _ rfl
  have b4 := bB.2 4 _ rfl
  go_enter Try.func100, Try.ntmps100
  go_wp2_with fail
  refine (CR.out _).mono ?_
  rintro e w1 ⟨rfl, hb1⟩
  have N1 := N.trans (hb1.mono N.size)
  have bA1 := bA.below hb1
  have bB1 := bB.below hb1
  clear a0 a1 a2 a3 a4 b0 b1 b2 b3 b4 bA bB hb1 N
  have a3 := bA1.2 3 _ rfl
  have a4 := bA1.2 4 _ rfl
  have b3 := bB1.2 3 _ rfl
  have b4 := bB1.2 4 _ rfl
  by_cases k1 : 0 ≤ z
  case neg =>
    have HE : Hid (false = u) := Lib.hid (by rw [← HU.out]; exact (canC_no1 HZ.out (by omega)).symm)
    go_wp2
    go_ret
    exact ⟨ret_bool HE.out, N1⟩
  go_wp2_with fail
  refine (CL.out _).mono ?_
  rintro e w2 ⟨rfl, q9⟩
  subst q9
  by_cases k2 : 400 * l ≤ zz
  case neg =>
    have HE : Hid (false = u) := Lib.hid (by rw [← HU.out]; exact (canC_no2 HZ.out HZZ.out HLO.out (by omega)).symm)
    go_wp2
    go_ret
    exact ⟨ret_bool HE.out, N1⟩
  by_cases k3 : f ≤ 0
  case pos =>
    have HE : Hid (true = u) := Lib.hid (by rw [← HU.out]; exact (canC_yes HZ.out HZZ.out HLO.out HF.out HFF.out HHI.out k1 k2 (Or.inl k3)).symm)
    go_wp2
    go_ret
    exact ⟨ret_bool HE.out, N1⟩
  go_wp2_with fail
  refine (CG.out _).mono ?_
  rintro e w2 ⟨rfl, q9⟩
  subst q9
  by_cases k4 : ff ≤ 400 * g
  case pos =>
    have HE : Hid (true = u) := Lib.hid (by rw [← HU.out]; exact (canC_yes HZ.out HZZ.out HLO.out HF.out HFF.out HHI.out k1 k2 (Or.inr k4)).symm)
    go_wp2
    go_ret
    exact ⟨ret_bool HE.out, N1⟩
  case neg =>
    have HE : Hid (false = u) := Lib.hid (by rw [← HU.out]; exact (canC_no3 HF.out HFF.out HHI.out (by omega) (by omega)).symm)
    have k5 : decide (f ≤ 0) = false := decide_eq_false (by omega)
    have k6 : decide (ff ≤ 400 * g) = false := decide_eq_false (by omega)
    go_wp2
    go_ret
    exact ⟨ret_bool HE.out, N1⟩
theorem lst_none {xs : List GArrival} {u : Bool} (h : ¬ 0 < xs.length) (hu : lstB xs = u) : false = u := by
  rw [← hu]
  unfold lstB
  rw [decide_eq_false h, Bool.and_false]
theorem lst_some {xs : List GArrival} {u : Bool} (h : 0 < xs.length) (hu : lstB xs = u) : goodAr xs = u := by
  rw [← hu]
  unfold lstB
  rw [decide_eq_true h, Bool.and_true]
set_option maxRecDepth 100000 in
set_option maxHeartbeats 1000000 in
theorem implLst (xs : List GArrival) (v : Value) (u : Bool) (w : World) (B : Nat) (h : ArrivalL w B v xs) (hB : B ≤ w.heap.size) (hn : xs.length ≤ 1048576) (hu : lstB xs = u) :
    Calls Try.prog 75 #[v] w fun e w' => e = .returned (.bool u) ∧ Below w.heap.size w w' := by
  by_cases h0 : 0 < xs.length
  case pos =>
    have C := Lib.hid (implGoodA xs v u w B h hB hn (lst_some h0 hu))
    have h1 : (0 : Int) < (xs.length : Int) := by omega
    obtain ⟨ao, cap, rfl⟩ := h.form
    clear h hu
    go_enter Try.func75, Try.ntmps75
    go_wp2_with fail
    refine C.out.mono ?_
    rintro e w1 ⟨rfl, hb⟩
    go_wp2
    go_ret
    exact ⟨rfl, hb⟩
  case neg =>
    have HF := Lib.hid (lst_none h0 hu)
    have h1 : ¬ (0 : Int) < (xs.length : Int) := by omega
    obtain ⟨ao, cap, rfl⟩ := h.form
    clear h hu
    go_enter Try.func75, Try.ntmps75
    go_wp2
    go_ret
    exact ⟨ret_bool HF.out, Below.refl _ _⟩
set_option maxRecDepth 100000 in
set_option maxHeartbeats 1000000 in
theorem implCanLoc (xs : List GArrival) (v : Value) (b : GCube) (u : Bool) (w : World) (B : Nat) (h : ArrivalL w B v xs) (hB : B ≤ w.heap.size) (hn : xs.length ≤ 1048576) (hu : okPo xs b = u) :
    Calls Try.prog 58 #[v, aggCb b] w fun e w' => e = .returned (.bool u) ∧ Below w.heap.size w w' := by
  have N := below_cube (w := w) (Nat.le_refl _) (objCb b)
  have bB := Bx.new w [.int .i64 b.pWest, .int .i64 b.pSouth, .int .i64 b.pSide, .int .i64 b.pFrom, .int .i64 b.pTo] 25
  have h0 := h.below (N.mono hB)
  unfold okPo at hu
  cases h1 : lstB xs with
  | false =>
    have C := Lib.hid (implLst xs v false _ B h0 (Nat.le_trans hB N.size) hn h1)
    rw [h1, Bool.false_and] at hu
    subst hu
    obtain ⟨ao, cap, rfl⟩ := h.form
    clear h h0 h1
    go_enter Try.func58, Try.ntmps58
    go_wp2_with fail
    refine C.out.mono ?_
    rintro e w1 ⟨rfl, hb⟩
    go_wp2
    go_ret
    exact ⟨rfl, N.trans (hb.mono N.size)⟩
  | true =>
    have C := Lib.hid (implLst xs v true _ B h0 (Nat.le_trans hB N.size) hn h1)
    rw [h1, Bool.true_and] at hu
    have C2 := Lib.hid (fun W => implGoodCb b u W hu)
    obtain ⟨ao, cap, rfl⟩ := h.form
    clear h h0 h1 hu
    go_enter Try.func58, Try.ntmps58
    go_wp2_with fail
    refine C.out.mono ?_
    rintro e w1 ⟨rfl, hb⟩
    have bB1 := bB.below hb
    have N1 := N.trans (hb.mono N.size)
    have b0 := bB1.2 0 _ rfl
    have b1 := bB1.2 1 _ rfl
    have b2 := bB1.2 2 _ rfl
    have b3 := bB1.2 3 _ rfl
    have b4 := bB1.2 4 _ rfl
    clear N hb bB
    go_wp2_with fail
    refine (C2.out _).mono ?_
    rintro e w2 ⟨rfl, hb⟩
    go_wp2
    go_ret
    exact ⟨rfl, N1.trans (hb.mono N1.size)⟩
set_option maxRecDepth 100000 in
set_option maxHeartbeats 4000000 in
theorem implPos (xs : List GArrival) (v : Value) (b : GCube) (u : Bool) (w : World) (B : Nat) (h : ArrivalL w B v xs) (hB : B ≤ w.heap.size) (hok : okArs xs) (hb : okCb b) (hu : canV xs b = u) :
    Calls Try.prog 59 #[v, aggCb b] w fun e w' => e = .returned (.bool u) ∧ Below w.heap.size w w' := by
  obtain ⟨W0, hW0⟩ : ∃ W0, w.alloc (objCb b) = W0 := ⟨_, rfl⟩
  have N0 : Below w.heap.size w W0 := hW0 ▸ (Below.refl w.heap.size w).alloc (Nat.le_refl _) _
  have bB : Bx W0 w.heap.size [.int .i64 b.pWest, .int .i64 b.pSouth, .int .i64 b.pSide, .int .i64 b.pFrom, .int .i64 b.pTo] := hW0 ▸ Bx.new w [.int .i64 b.pWest, .int .i64 b.pSouth, .int .i64 b.pSide, .int .i64 b.pFrom, .int .i64 b.pTo] 25
  have z0 := N0.size
  have HOK := Lib.hid hok
  have HB := Lib.hid hb
  have HU := Lib.hid hu
  have hl8 := hok.2
  obtain ⟨ao, cap, rfl, hcap, hmax, -, hc⟩ := h.below (N0.mono hB)
  unfold maxLen at hmax
  have HC := Lib.hid hc
  clear hc hok hb hu h
  go_enter Try.func59, Try.ntmps59
  go_wp2
  go_loopw [9] (fun i wr => ∃ k : Nat, k ≤ xs.length ∧ i = .int .i64 k ∧ Hid (∀ (j : Nat) a, j < k → xs[j]? = some a → canC a b = true) ∧ Below W0.heap.size W0 wr)
    (fun i _ => xs.length - (intOf i).toNat)
  case atStart => exact ⟨0, Nat.zero_le _, rfl, Lib.hid (fun j a hj => by omega), Below.refl _ _⟩
  case round =>
    obtain ⟨k, hk, rfl, HA, hbl⟩ := hrel
    have hsz := hbl.size
    by_cases hlt : k < xs.length
    case neg =>
      obtain rfl : k = xs.length := by omega
      have HE : Hid (true = u) := Lib.hid (by rw [← HU.out]; exact (canV_yes HA.out).symm)
      go_wp2
      go_ret
      exact ⟨ret_bool HE.out, N0.trans (hbl.mono z0)⟩
    have hk0 : (0 : Int) ≤ (k : Int) := by omega
    have hk1 : (k : Int) < (xs.length : Int) := by omega
    have hk2 : (k : Int) ≤ 8 := by omega
    obtain ⟨a, ha⟩ := get_of_lt hlt
    have hoka := okArs_mem HOK.out (List.mem_of_getElem? ha)
    obtain ⟨bb, off, rfl, hb, hcell⟩ := HC.out k a ha
    have c0 : wr.cell? ⟨bb, off + k * 5, none⟩ = some (.int .i64 a.pId) := cellOf hbl (by omega) (hcell 0 _ rfl)
    have c1 : wr.cell? ⟨bb, off + k * 5 + 1, none⟩ = some (.int .i64 a.pX) := cellOf hbl (by omega) (hcell 1 _ rfl)
    have c2 : wr.cell? ⟨bb, off + k * 5 + 2, none⟩ = some (.int .i64 a.pY) := cellOf hbl (by omega) (hcell 2 _ rfl)
    have c3 : wr.cell? ⟨bb, off + k * 5 + 3, none⟩ = some (.int .i64 a.pTick) := cellOf hbl (by omega) (hcell 3 _ rfl)
    have c4 : wr.cell? ⟨bb, off + k * 5 + 4, none⟩ = some (.int .i64 a.pError) := cellOf hbl (by omega) (hcell 4 _ rfl)
    have bB1 := bB.below hbl
    obtain ⟨W1, hW1⟩ : ∃ W1, wr.alloc (objA a) = W1 := ⟨_, rfl⟩
    have A1 : Below wr.heap.size wr W1 := hW1 ▸ (Below.refl _ _).alloc (Nat.le_refl _) _
    have bA : Bx W1 wr.heap.size [.int .i64 a.pId, .int .i64 a.pX, .int .i64 a.pY, .int .i64 a.pTick, .int .i64 a.pError] := hW1 ▸ Bx.new wr [.int .i64 a.pId, .int .i64 a.pX, .int .i64 a.pY, .int .i64 a.pTick, .int .i64 a.pError] 77
    have bB2 := bB1.below A1
    have N1 := hbl.trans (A1.mono hsz)
    have a0 := bA.2 0 _ rfl
    have a1 := bA.2 1 _ rfl
    have a2 := bA.2 2 _ rfl
    have a3 := bA.2 3 _ rfl
    have a4 := bA.2 4 _ rfl
    have b0 := bB2.2 0 _ rfl
    have b1 := bB2.2 1 _ rfl
    have b2 := bB2.2 2 _ rfl
    have b3 := bB2.2 3 _ rfl
    have b4 := bB2.2 4 _ rfl
    have HT := Lib.hid ha
    clear ha hcell
    cases hc9 : canC a b with
    | false =>
      have HE : Hid (false = u) := Lib.hid (by rw [← HU.out]; exact (canV_no HT.out hc9).symm)
      have CI := Lib.hid (fun W => implIn a b false W hoka HB.out hc9)
      clear hc9 hoka
      go_wp2_with fail
      refine (CI.out _).mono ?_
      rintro e w2 ⟨rfl, hb2⟩
      clear a0 a1 a2 a3 a4 b0 b1 b2 b3 b4 c0 c1 c2 c3 c4
      go_wp2
      go_ret
      exact ⟨ret_bool HE.out, N0.trans ((N1.trans (hb2.mono N1.size)).mono z0)⟩
    | true =>
      have HA2 : Hid (∀ (j : Nat) a, j < k + 1 → xs[j]? = some a → canC a b = true) := Lib.hid (fun j c hj hc => by
        by_cases q : j < k
        · exact HA.out j c q hc
        · obtain rfl : j = k := by omega
          rw [HT.out] at hc
          cases hc
          exact hc9)
      have CI := Lib.hid (fun W => implIn a b true W hoka HB.out hc9)
      clear hc9 hoka
      go_wp2_with fail
      refine (CI.out _).mono ?_
      rintro e w2 ⟨rfl, hb2⟩
      clear a0 a1 a2 a3 a4 b0 b1 b2 b3 b4 c0 c1 c2 c3 c4
      go_wp2
      go_roundw
      case rel => exact ⟨k + 1, by omega, by go_num, HA2, N1.trans (hb2.mono N1.size)⟩
      case measure => simp [intOf]; omega
set_option maxRecDepth 100000 in
set_option maxHeartbeats 2000000 in
theorem implPo (xs : List GArrival) (v : Value) (b : GCube) (v2 : Value) (w : World) (B : Nat) (h : ArrivalL w B v xs) (h2 : CubeVL w B v2 b) (hB : B ≤ w.heap.size) (hn : szsArrival xs ≤ 1048576) (_ : sz1Cube b ≤ 1048576) (hw : ∀ s ∈ xs, wfArrival s) (hw2 : wfCube b) :
    Calls Try.prog 21 #[v, v2] w fun e w' => e = .returned (.tuple #[.bool (resPo xs b), .bool (okPo xs b)]) ∧ Below w.heap.size w w' := by
  obtain rfl := h2.form
  clear h2
  have hl := Nat.le_trans (szsArrival_len xs) hn
  obtain ⟨W0, hW0⟩ : ∃ W0, w.alloc (objCb b) = W0 := ⟨_, rfl⟩
  have N0 : Below w.heap.size w W0 := hW0 ▸ (Below.refl w.heap.size w).alloc (Nat.le_refl _) _
  have bB : Bx W0 w.heap.size [.int .i64 b.pWest, .int .i64 b.pSouth, .int .i64 b.pSide, .int .i64 b.pFrom, .int .i64 b.pTo] := hW0 ▸ Bx.new w [.int .i64 b.pWest, .int .i64 b.pSouth, .int .i64 b.pSide, .int .i64 b.pFrom, .int .i64 b.pTo] 25
  have z0 := N0.size
  have h0 := h.below (N0.mono hB)
  have CL := Lib.hid (fun u hu => implCanLoc xs v b u W0 B h0 (Nat.le_trans hB z0) hl hu)
  have CC := Lib.hid (fun u W (q : Below W0.heap.size W0 W) hok hb hu => implPos xs v b u W B (h0.below (q.mono (by omega))) (Nat.le_trans hB (Nat.le_trans z0 q.size)) hok hb hu)
  obtain ⟨ao, cap, rfl⟩ := h.form
  clear h h0
  have b0 := bB.2 0 _ rfl
  have b1 := bB.2 1 _ rfl
  have b2 := bB.2 2 _ rfl
  have b3 := bB.2 3 _ rfl
  have b4 := bB.2 4 _ rfl
  cases e : okPo xs b with
  | false =>
    have C1 := Lib.hid (CL.out false e)
    have HF := Lib.hid (no2b (show resPo xs b = false by unfold resPo; rw [e]; rfl) (rfl : false = false))
    clear e CL CC bB
    go_enter Try.func21, Try.ntmps21
    go_wp2_with fail
    refine C1.out.mono ?_
    rintro e w1 ⟨rfl, hb⟩
    clear b0 b1 b2 b3 b4
    go_wp2
    go_ret2
    exact ⟨HF.out, N0.trans (hb.mono z0)⟩
  | true =>
  have C1 := Lib.hid (CL.out true e)
  obtain ⟨u, hu⟩ : ∃ u, canV xs b = u := ⟨_, rfl⟩
  have e2 := e
  unfold okPo at e2
  rw [Bool.and_eq_true] at e2
  have C3 := Lib.hid (fun W q => CC.out u W q (lstB_yes e2.1).1 (goodCb_yes e2.2) hu)
  have HF := Lib.hid (yes2b (show resPo xs b = u by unfold resPo; rw [e, hu]; rfl) (rfl : true = true))
  clear e e2 CL CC hu
  go_enter Try.func21, Try.ntmps21
  go_wp2_with fail
  refine C1.out.mono ?_
  rintro e w1 ⟨rfl, hb⟩
  have N1 := N0.trans (hb.mono z0)
  have bB1 := bB.below hb
  clear b0 b1 b2 b3 b4 bB
  have a0 := bB1.2 0 _ rfl
  have a1 := bB1.2 1 _ rfl
  have a2 := bB1.2 2 _ rfl
  have a3 := bB1.2 3 _ rfl
  have a4 := bB1.2 4 _ rfl
  go_wp2_with fail
  refine (C3.out _ hb).mono ?_
  rintro e w3 ⟨rfl, hb⟩
  go_wp2
  go_ret2
  exact ⟨HF.out, N1.trans (hb.mono N1.size)⟩
end Go.Proofs.Ytoogofceoinniaa
