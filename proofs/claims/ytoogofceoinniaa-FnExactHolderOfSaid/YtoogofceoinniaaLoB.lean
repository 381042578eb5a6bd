/- Location by boxes: the specification's reach, and which cubes are possible. -/
import Derived.Test.YtoogofceoinniaaLoA
import Derived.Test.YtoogofceoinniaaVoB
namespace Go.Proofs.Ytoogofceoinniaa
open Go.ChangeShapes Go.WideShapes Go.ChangeAt Go.RowKit Go.ChangeMaps Go.Sort
set_option linter.unusedSimpArgs false
set_option linter.unusedVariables false
set_option linter.unusedSimpArgs false
set_option linter.unusedVariables false

set_option maxRecDepth 100000 in
set_option maxHeartbeats 1000000 in
theorem specSpn (x low side p q : Int) (w : World) (hx : 0 ≤ x ∧ x ≤ 999) (hl : 0 ≤ low ∧ low ≤ 999) (hs : 1 ≤ side ∧ side ≤ 512) (hp : nearC x low side = p) (hq : farC x low side = q) :
    Calls Try.prog 96 #[.int .i64 x, .int .i64 low, .int .i64 side] w fun e w' => e = .returned (.tuple #[.int .i64 p, .int .i64 q]) ∧ w' = w := by
  obtain ⟨x0, x1⟩ := hx
  obtain ⟨l0, l1⟩ := hl
  obtain ⟨s0, s1⟩ := hs
  unfold nearC at hp
  unfold farC at hq
  obtain ⟨m, hm⟩ : ∃ m, max (low - x) (x - (low + side - 1)) = m := ⟨_, rfl⟩
  rw [hm] at hp
  have M1 := Lib.hid (fun W => mostF (low - x) (x - (low + side - 1)) m W hm)
  have M2 := Lib.hid (fun W => mostF 0 m p W hp)
  have M3 := Lib.hid (fun W => mostF (low + side - 1 - x) (x - low) q W hq)
  clear hm hp hq
  go_enter Try.func96, Try.ntmps96
  go_wp2_with fail
  refine (M1.out _).mono ?_
  rintro e w1 ⟨rfl, q1⟩
  subst q1
  go_wp2_with fail
  refine (M2.out _).mono ?_
  rintro e w1 ⟨rfl, q1⟩
  subst q1
  go_wp2_with fail
  refine (M3.out _).mono ?_
  rintro e w1 ⟨rfl, q1⟩
  subst q1
  go_wp2
  go_ret2
  exact ⟨rfl, rfl⟩
set_option maxRecDepth 100000 in
set_option maxHeartbeats 2000000 in
theorem specReach (b : GCube) (x y l g : Int) (w : World) (hb : okCb b) (hx : 0 ≤ x ∧ x ≤ 999) (hy : 0 ≤ y ∧ y ≤ 999) (hl : loR b x y = l) (hg : hiR b x y = g) :
    Calls Try.prog 53 #[aggCb b, .int .i64 x, .int .i64 y] w fun e w' => e = .returned (.tuple #[.int .i64 l, .int .i64 g]) ∧ Below w.heap.size w w' := by
  have sb := okSide_bd hb.1
  have pp := nearC_bd hx hb.2.1.1 sb
  have qq := nearC_bd hy hb.2.1.2 sb
  unfold loR at hl
  unfold hiR at hg
  obtain ⟨p, hp⟩ : ∃ p, nearC x b.pWest b.pSide = p := ⟨_, rfl⟩
  obtain ⟨q, hq⟩ : ∃ q, farC x b.pWest b.pSide = q := ⟨_, rfl⟩
  obtain ⟨u, hu⟩ : ∃ u, nearC y b.pSouth b.pSide = u := ⟨_, rfl⟩
  obtain ⟨v, hv⟩ : ∃ v, farC y b.pSouth b.pSide = v := ⟨_, rfl⟩
  have C1 := Lib.hid (fun W => specSpn x b.pWest b.pSide p q W hx hb.2.1.1 sb hp hq)
  have C2 := Lib.hid (fun W => specSpn y b.pSouth b.pSide u v W hy hb.2.1.2 sb hu hv)
  rw [hp, hu] at hl
  rw [hq, hv] at hg
  rw [hp, hq] at pp
  rw [hu, hv] at qq
  obtain ⟨⟨p0, p1⟩, ⟨p2, p3⟩, -⟩ := pp
  obtain ⟨⟨u0, u1⟩, ⟨u2, u3⟩, -⟩ := qq
  have a1 := sq_cap p0 p1
  have a2 := sq_cap p2 p3
  have a3 := sq_cap u0 u1
  have a4 := sq_cap u2 u3
  obtain ⟨p9, hp9⟩ : ∃ z, p * p = z := ⟨_, rfl⟩
  obtain ⟨q9, hq9⟩ : ∃ z, q * q = z := ⟨_, rfl⟩
  obtain ⟨u9, hu9⟩ : ∃ z, u * u = z := ⟨_, rfl⟩
  obtain ⟨v9, hv9⟩ : ∃ z, v * v = z := ⟨_, rfl⟩
  rw [hp9] at a1 hl
  rw [hq9] at a2 hg
  rw [hu9] at a3 hl
  rw [hv9] at a4 hg
  have s1 : wrap64 (p * p) = p9 := by rw [hp9]; unfold wrap64; omega
  have s2 : wrap64 (q * q) = q9 := by rw [hq9]; unfold wrap64; omega
  have s3 : wrap64 (u * u) = u9 := by rw [hu9]; unfold wrap64; omega
  have s4 : wrap64 (v * v) = v9 := by rw [hv9]; unfold wrap64; omega
  have s5 : wrap64 (p9 + u9) = p9 + u9 := by unfold wrap64; omega
  have s6 : wrap64 (q9 + v9) = q9 + v9 := by unfold wrap64; omega
  have HL := Lib.hid hl
  have HG := Lib.hid hg
  have N := Lib.hid (below_cube (w := w) (Nat.le_refl _) (objCb b))
  clear hl hg hp hq hu hv hp9 hq9 hu9 hv9 hb hx hy sb
  go_enter Try.func53, Try.ntmps53
  go_wp2_with fail
  refine (C1.out _).mono ?_
  rintro e w1 ⟨rfl, q1⟩
  subst q1
  go_wp2_with fail
  refine (C2.out _).mono ?_
  rintro e w1 ⟨rfl, q1⟩
  subst q1
  go_wp2
  go_ret2
  exact ⟨ret2i HL.out HG.out, N.out⟩
theorem no3i {a b : Int} {c : Bool} (h1 : a = 0) (h2 : b = 0) (h3 : c = false) : Ending.returned (.tuple #[.int .i64 0, .int .i64 0, .bool false]) = .returned (.tuple #[.int .i64 a, .int .i64 b, .bool c]) := by subst h1 h2 h3; rfl
theorem yes3i {a b l g : Int} {c : Bool} (h1 : a = l) (h2 : b = g) (h3 : c = true) : Ending.returned (.tuple #[.int .i64 l, .int .i64 g, .bool true]) = .returned (.tuple #[.int .i64 a, .int .i64 b, .bool c]) := by subst h1 h2 h3; rfl
set_option maxRecDepth 100000 in
set_option maxHeartbeats 2000000 in
theorem specRc (b : GCube) (v : Value) (x y : Int) (w : World) (B : Nat) (h : CubeVL w B v b) (hB : B ≤ w.heap.size) (_ : sz1Cube b ≤ 1048576) (hw : wfCube b) (_ : I64 x) (_ : I64 y) :
    Calls Try.prog 16 #[v, .int .i64 x, .int .i64 y] w fun e w' => e = .returned (.tuple #[.int .i64 (loRc b x y), .int .i64 (hiRc b x y), .bool (okRc b x y)]) ∧ Below w.heap.size w w' := by
  obtain rfl := h.form
  clear h
  have N1 := (Below.refl w.heap.size w).alloc (Nat.le_refl _) (objCb b)
  have bB := Bx.new w [.int .i64 b.pWest, .int .i64 b.pSouth, .int .i64 b.pSide, .int .i64 b.pFrom, .int .i64 b.pTo] 25
  cases h1 : goodCb b with
  | false =>
    have C1 := Lib.hid (fun W => specGoodCb b false W h1)
    have e : okRc b x y = false := by unfold okRc; rw [h1]; rfl
    have HF := Lib.hid (no3i (loRc_no e) (hiRc_no e) e)
    clear h1 e bB
    go_enter Try.func16, Try.ntmps16
    go_wp2_with fail
    refine (C1.out _).mono ?_
    rintro e w1 ⟨rfl, hb⟩
    go_wp2
    go_ret3
    exact ⟨HF.out, N1.trans (hb.mono N1.size)⟩
  | true =>
  have C1 := Lib.hid (fun W => specGoodCb b true W h1)
  cases h2 : plcB x y with
  | false =>
    have C2 := Lib.hid (fun W => specPlace x y false W h2)
    have e : okRc b x y = false := by unfold okRc; rw [h2, Bool.and_false]
    have HF := Lib.hid (no3i (loRc_no e) (hiRc_no e) e)
    clear h1 h2 e bB
    go_enter Try.func16, Try.ntmps16
    go_wp2_with fail
    refine (C1.out _).mono ?_
    rintro e w1 ⟨rfl, hb⟩
    have N2 := N1.trans (hb.mono N1.size)
    go_wp2_with fail
    refine (C2.out _).mono ?_
    rintro e w2 ⟨rfl, q2⟩
    subst q2
    go_wp2
    go_ret3
    exact ⟨HF.out, N2⟩
  | true =>
  have C2 := Lib.hid (fun W => specPlace x y true W h2)
  have e : okRc b x y = true := by unfold okRc; rw [h1, h2]; rfl
  have CR := Lib.hid (fun W => specReach b x y _ _ W (okRc_yes e).1 (okRc_yes e).2.1 (okRc_yes e).2.2 rfl rfl)
  have HF := Lib.hid (yes3i (loRc_yes e) (hiRc_yes e) e)
  clear h1 h2 e
  go_enter Try.func16, Try.ntmps16
  go_wp2_with fail
  refine (C1.out _).mono ?_
  rintro e w1 ⟨rfl, hb⟩
  have N2 := N1.trans (hb.mono N1.size)
  have bB1 := bB.below hb
  clear hb bB
  go_wp2_with fail
  refine (C2.out _).mono ?_
  rintro e w2 ⟨rfl, q2⟩
  subst q2
  have a0 := bB1.2 0 _ rfl
  have a1 := bB1.2 1 _ rfl
  have a2 := bB1.2 2 _ rfl
  have a3 := bB1.2 3 _ rfl
  have a4 := bB1.2 4 _ rfl
  clear bB1
  go_wp2_with fail
  refine (CR.out _).mono ?_
  rintro e w3 ⟨rfl, hb⟩
  have N3 := N2.trans (hb.mono N2.size)
  go_wp2
  go_ret3
  exact ⟨HF.out, N3⟩
/-- Whether a cube is possible, as a Go test says it. -/
theorem canC_no1 {a : GArrival} {b : GCube} {z : Int} (hz : a.pTick + a.pError - b.pFrom = z) (h : z < 0) : canC a b = false := decide_eq_false fun g => by omega
theorem canC_no2 {a : GArrival} {b : GCube} {z zz l : Int} (hz : a.pTick + a.pError - b.pFrom = z) (hzz : z * z = zz) (hl : loR b a.pX a.pY = l) (h : zz < 400 * l) : canC a b = false := decide_eq_false fun g => by
  have := g.2.1
  rw [hz, hzz, hl] at this
  omega
theorem canC_no3 {a : GArrival} {b : GCube} {f ff g : Int} (hf : a.pTick - a.pError - b.pTo = f) (hff : f * f = ff) (hg : hiR b a.pX a.pY = g) (h0 : 0 < f) (h : 400 * g < ff) : canC a b = false := decide_eq_false fun k => by
  have := k.2.2
  rw [hf, hff, hg] at this
  omega
theorem canC_yes {a : GArrival} {b : GCube} {z zz l f ff g : Int} (hz : a.pTick + a.pError - b.pFrom = z) (hzz : z * z = zz) (hl : loR b a.pX a.pY = l) (hf : a.pTick - a.pError - b.pTo = f) (hff : f * f = ff) (hg : hiR b a.pX a.pY = g) (h0 : 0 ≤ z) (h1 : 400 * l ≤ zz) (h2 : f ≤ 0 ∨ ff ≤ 400 * g) : canC a b = true := decide_eq_true (by
  rw [hz, hzz, hl, hf, hff, hg]
  exact ⟨h0, h1, h2⟩)
theorem canV_no {xs : List GArrival} {b : GCube} {k : Nat} {a : GArrival} (ha : xs[k]? = some a) (h : canC a b = false) : canV xs b = false := by
  unfold canV
  rw [List.all_eq_false]
  exact ⟨a, List.mem_of_getElem? ha, by rw [h]; exact Bool.false_ne_true⟩
theorem canV_yes {xs : List GArrival} {b : GCube} (h : ∀ (j : Nat) a, j < xs.length → xs[j]? = some a → canC a b = true) : canV xs b = true := by
  unfold canV
  rw [List.all_eq_true]
  intro a ha
  obtain ⟨i, hi⟩ := List.mem_iff_getElem?.1 ha
  exact h i a (List.getElem?_eq_some_iff.1 hi).1 hi
set_option maxRecDepth 100000 in
set_option maxHeartbeats 8000000 in
theorem specCan (xs : List GArrival) (v : Value) (b : GCube) (u : Bool) (w : World) (B : Nat) (h : ArrivalL w B v xs) (hB : B ≤ w.heap.size) (hok : okArs xs) (hb : okCb b) (hu : canV xs b = u) :
    Calls Try.prog 56 #[v, aggCb b] w fun e w' => e = .returned (.bool u) ∧ Below w.heap.size w w' := by
  obtain ⟨W0, hW0⟩ : ∃ W0, w.alloc (objCb b) = W0 := ⟨_, rfl⟩
  have N0 : Below w.heap.size w W0 := hW0 ▸ (Below.refl w.heap.size w).alloc (Nat.le_refl _) _
  have bB : Bx W0 w.heap.size [.int .i64 b.pWest, .int .i64 b.pSouth, .int .i64 b.pSide, .int .i64 b.pFrom, .int .i64 b.pTo] := hW0 ▸ Bx.new w [.int .i64 b.pWest, .int .i64 b.pSouth, .int .i64 b.pSide, .int .i64 b.pFrom, .int .i64 b.pTo] 25
  have z0 := N0.size
  have HOK := Lib.hid hok
  have HB := Lib.hid hb
  have HU := Lib.hid hu
  have hl8 := hok.2
  have ht := hb.2.2.2
  obtain ⟨⟨f0, f1⟩, ⟨t0, t1⟩, -⟩ := ht
  obtain ⟨ao, cap, rfl, hcap, hmax, -, hc⟩ := h.below (N0.mono hB)
  unfold maxLen at hmax
  have HC := Lib.hid hc
  clear hc hok hb hu h
  go_enter Try.func56, Try.ntmps56
  go_wp2
  go_loopw [5] (fun i wr => ∃ k : Nat, k ≤ xs.length ∧ i = .int .i64 k ∧ Hid (∀ (j : Nat) a, j < k → xs[j]? = some a → canC a b = true) ∧ Below W0.heap.size W0 wr)
    (fun i _ => xs.length - (intOf i).toNat)
  case atStart => exact ⟨0, Nat.zero_le _, rfl, Lib.hid (fun j a hj => by omega), Below.refl _ _⟩
  case round =>
    obtain ⟨k, hk, rfl, HA, hbl⟩ := hrel
    have hsz := hbl.size
    by_cases hlt : k < xs.length
    case neg =>
      obtain rfl : k = xs.length := by omega
      have HE : Hid (true = u) := Lib.hid (by rw [← HU.out]; exact (canV_yes HA.out).symm)
      go_wp2
      go_ret
      exact ⟨ret_bool HE.out, N0.trans (hbl.mono z0)⟩
    have hk0 : (0 : Int) ≤ (k : Int) := by omega
    have hk1 : (k : Int) < (xs.length : Int) := by omega
    obtain ⟨a, ha⟩ := get_of_lt hlt
    have hoka := okArs_mem HOK.out (List.mem_of_getElem? ha)
    obtain ⟨bb, off, rfl, hb, hcell⟩ := HC.out k a ha
    have c0 : wr.cell? ⟨bb, off + k * 5, none⟩ = some (.int .i64 a.pId) := cellOf hbl (by omega) (hcell 0 _ rfl)
    have c1 : wr.cell? ⟨bb, off + k * 5 + 1, none⟩ = some (.int .i64 a.pX) := cellOf hbl (by omega) (hcell 1 _ rfl)
    have c2 : wr.cell? ⟨bb, off + k * 5 + 2, none⟩ = some (.int .i64 a.pY) := cellOf hbl (by omega) (hcell 2 _ rfl)
    have c3 : wr.cell? ⟨bb, off + k * 5 + 3, none⟩ = some (.int .i64 a.pTick) := cellOf hbl (by omega) (hcell 3 _ rfl)
    have c4 : wr.cell? ⟨bb, off + k * 5 + 4, none⟩ = some (.int .i64 a.pError) := cellOf hbl (by omega) (hcell 4 _ rfl)
    have bB1 := bB.below hbl
    have N1 := hbl.alloc hsz (objA a)
    have bA := Bx.new wr [.int .i64 a.pId, .int .i64 a.pX, .int .i64 a.pY, .int .i64 a.pTick, .int .i64 a.pError] 77
    have bB2 := bB1.alloc (objA a)
    have HT := Lib.hid ha
    obtain ⟨-, ⟨hx, hy⟩, ⟨ht0, ht1⟩, ⟨he0, he1⟩⟩ := id hoka
    obtain ⟨l, hl⟩ : ∃ l, loR b a.pX a.pY = l := ⟨_, rfl⟩
    obtain ⟨g, hg⟩ : ∃ g, hiR b a.pX a.pY = g := ⟨_, rfl⟩
    have hrb := reach_bd HB.out hx hy
    rw [hl, hg] at hrb
    obtain ⟨r0, r1, r2⟩ := hrb
    have CR := Lib.hid (fun W => specReach b a.pX a.pY l g W HB.out hx hy hl hg)
    have HLO := Lib.hid hl
    have HHI := Lib.hid hg
    have b0 := bB2.2 0 _ rfl
    have b1 := bB2.2 1 _ rfl
    have b2 := bB2.2 2 _ rfl
    have b3 := bB2.2 3 _ rfl
    have b4 := bB2.2 4 _ rfl
    clear ha hcell hoka hl hg bB1 hx hy
    go_wp2_with fail
    refine (CR.out _).mono ?_
    rintro e w1 ⟨rfl, hb1⟩
    have bA1 := bA.below hb1
    have bB3 := bB2.below hb1
    have M1 := N1.trans (hb1.mono N1.size)
    clear b0 b1 b2 b3 b4 c0 c1 c2 c3 c4 bA bB2
    have a3 := bA1.2 3 _ rfl
    have a4 := bA1.2 4 _ rfl
    have b3 := bB3.2 3 _ rfl
    have b4 := bB3.2 4 _ rfl
    obtain ⟨z, hz⟩ : ∃ z, a.pTick + a.pError - b.pFrom = z := ⟨_, rfl⟩
    obtain ⟨f, hf⟩ : ∃ f, a.pTick - a.pError - b.pTo = f := ⟨_, rfl⟩
    have zb : -1001000 ≤ z ∧ z ≤ 1001000 := by omega
    have fb : -1001000 ≤ f ∧ f ≤ 1001000 := by omega
    obtain ⟨zz, hzz⟩ : ∃ q, z * z = q := ⟨_, rfl⟩
    obtain ⟨ff, hff⟩ : ∃ q, f * f = q := ⟨_, rfl⟩
    have m1 := mul_bd2 zb.1 zb.2
    have m2 := mul_bd2 fb.1 fb.2
    rw [hzz] at m1
    rw [hff] at m2
    obtain ⟨z0', z1'⟩ := zb
    obtain ⟨f0', f1'⟩ := fb
    have p1 : IntKind.i64.wrap (a.pTick - a.pError) = a.pTick - a.pError := IntWalk.i64_in _ (by omega)
    have p2 : IntKind.i64.wrap (a.pTick + a.pError) = a.pTick + a.pError := IntWalk.i64_in _ (by omega)
    have p3 : IntKind.i64.wrap (a.pTick + a.pError - b.pFrom) = z := by rw [hz]; exact IntWalk.i64_in _ (by omega)
    have p4 : IntKind.i64.wrap (a.pTick - a.pError - b.pTo) = f := by rw [hf]; exact IntWalk.i64_in _ (by omega)
    have s1 : wrap64 (z * z) = zz := by rw [hzz]; unfold wrap64; omega
    have s2 : wrap64 (f * f) = ff := by rw [hff]; unfold wrap64; omega
    have s3 : wrap64 (400 * l) = 400 * l := by unfold wrap64; omega
    have s4 : wrap64 (400 * g) = 400 * g := by unfold wrap64; omega
    have HZ := Lib.hid hz
    have HF := Lib.hid hf
    have HZZ := Lib.hid hzz
    have HFF := Lib.hid hff
    generalize wr.alloc (objA a) = W1 at *
    clear hz hf hzz hff
    go_wp2_with fail
    go_quiet (fail)
    have M2 := Lib.hid (drewN_b M1 nq)
    generalize w1.drewN nq = W2 at *
    clear a3 a4 b3 b4 p1 p2 p3 p4 M1
    by_cases k1 : z < 0
    case pos =>
      have HE : Hid (false = u) := Lib.hid (by rw [← HU.out]; exact (canV_no HT.out (canC_no1 HZ.out k1)).symm)
      go_wp2
      go_ret
      exact ⟨ret_bool HE.out, N0.trans (M2.out.mono z0)⟩
    by_cases k2 : zz < 400 * l
    case pos =>
      have HE : Hid (false = u) := Lib.hid (by rw [← HU.out]; exact (canV_no HT.out (canC_no2 HZ.out HZZ.out HLO.out k2)).symm)
      go_wp2
      go_ret
      exact ⟨ret_bool HE.out, N0.trans (M2.out.mono z0)⟩
    by_cases k3 : 0 < f
    case neg =>
      have HA2 : Hid (∀ (j : Nat) a, j < k + 1 → xs[j]? = some a → canC a b = true) := Lib.hid (fun j c hj hc => by
        by_cases q : j < k
        · exact HA.out j c q hc
        · obtain rfl : j = k := by omega
          rw [HT.out] at hc
          cases hc
          exact canC_yes HZ.out HZZ.out HLO.out HF.out HFF.out HHI.out (by omega) (by omega) (Or.inl (by omega)))
      have M3 := M2.out
      go_wp2
      go_roundw
      case rel => exact ⟨k + 1, by omega, by go_num, HA2, M3⟩
      case measure => simp [intOf]; omega
    by_cases k4 : 400 * g < ff
    case pos =>
      have HE : Hid (false = u) := Lib.hid (by rw [← HU.out]; exact (canV_no HT.out (canC_no3 HF.out HFF.out HHI.out k3 k4)).symm)
      go_wp2
      go_ret
      exact ⟨ret_bool HE.out, N0.trans (M2.out.mono z0)⟩
    case neg =>
      have HA2 : Hid (∀ (j : Nat) a, j < k + 1 → xs[j]? = some a → canC a b = true) := Lib.hid (fun j c hj hc => by
        by_cases q : j < k
        · exact HA.out j c q hc
        · obtain rfl : j = k := by omega
          rw [HT.out] at hc
          cases hc
          exact canC_yes HZ.out HZZ.out HLO.out HF.out HFF.out HHI.out (by omega) (by omega) (Or.inr (by omega)))
      have M3 := M2.out
      go_wp2
      go_roundw
      case rel => exact ⟨k + 1, by omega, by go_num, HA2, M3⟩
      case measure => simp [intOf]; omega
theorem lst_len {xs : List GArrival} (h : goodAr xs = true) {u : Bool} (hu : lstB xs = u) : decide (0 < xs.length) = u := by
  unfold lstB at hu
  rw [h, Bool.true_and] at hu
  exact hu
set_option maxRecDepth 100000 in
set_option maxHeartbeats 1000000 in
theorem specLst (xs : List GArrival) (v : Value) (u : Bool) (w : World) (B : Nat) (h : ArrivalL w B v xs) (hB : B ≤ w.heap.size) (hn : xs.length ≤ 1048576) (hu : lstB xs = u) :
    Calls Try.prog 55 #[v] w fun e w' => e = .returned (.bool u) ∧ Below w.heap.size w w' := by
  cases hg : goodAr xs with
  | false =>
    have C := Lib.hid (specGoodA xs v false w B h hB hn hg)
    have HF : Hid (false = u) := Lib.hid (by rw [← hu]; unfold lstB; rw [hg]; rfl)
    obtain ⟨ao, cap, rfl⟩ := h.form
    clear h hg hu
    go_enter Try.func55, Try.ntmps55
    go_wp2_with fail
    refine C.out.mono ?_
    rintro e w1 ⟨rfl, hb⟩
    go_wp2
    go_ret
    exact ⟨ret_bool HF.out, hb⟩
  | true =>
    have C := Lib.hid (specGoodA xs v true w B h hB hn hg)
    have hd := lst_len hg hu
    obtain ⟨ao, cap, rfl⟩ := h.form
    by_cases h0 : 0 < xs.length
    · have HF : Hid (true = u) := Lib.hid (by rw [← hd, decide_eq_true h0])
      have h1 : (0 : Int) < (xs.length : Int) := by omega
      clear h hg hu hd
      go_enter Try.func55, Try.ntmps55
      go_wp2_with fail
      refine C.out.mono ?_
      rintro e w1 ⟨rfl, hb⟩
      go_wp2
      go_ret
      exact ⟨ret_bool HF.out, hb⟩
    · have HF : Hid (false = u) := Lib.hid (by rw [← hd, decide_eq_false h0])
      have h1 : ¬ (0 : Int) < (xs.length : Int) := by omega
      clear h hg hu hd
      go_enter Try.func55, Try.ntmps55
      go_wp2_with fail
      refine C.out.mono ?_
      rintro e w1 ⟨rfl, hb⟩
      go_wp2
      go_ret
      exact ⟨ret_bool HF.out, hb⟩
theorem no2b {a c : Bool} (h1 : a = false) (h2 : c = false) : Ending.returned (.tuple #[.bool false, .bool false]) = .returned (.tuple #[.bool a, .bool c]) := by subst h1 h2; rfl
theorem yes2b {a b c : Bool} (h1 : b = a) (h2 : c = true) : Ending.returned (.tuple #[.bool a, .bool true]) = .returned (.tuple #[.bool b, .bool c]) := by subst h1 h2; rfl
set_option maxRecDepth 100000 in
set_option maxHeartbeats 2000000 in
theorem specPo (xs : List GArrival) (v : Value) (b : GCube) (v2 : Value) (w : World) (B : Nat) (h : ArrivalL w B v xs) (h2 : CubeVL w B v2 b) (hB : B ≤ w.heap.size) (hn : szsArrival xs ≤ 1048576) (_ : sz1Cube b ≤ 1048576) (hw : ∀ s ∈ xs, wfArrival s) (hw2 : wfCube b) :
    Calls Try.prog 19 #[v, v2] w fun e w' => e = .returned (.tuple #[.bool (resPo xs b), .bool (okPo xs b)]) ∧ Below w.heap.size w w' := by
  obtain rfl := h2.form
  clear h2
  have hl := Nat.le_trans (szsArrival_len xs) hn
  obtain ⟨W0, hW0⟩ : ∃ W0, w.alloc (objCb b) = W0 := ⟨_, rfl⟩
  have N0 : Below w.heap.size w W0 := hW0 ▸ (Below.refl w.heap.size w).alloc (Nat.le_refl _) _
  have bB : Bx W0 w.heap.size [.int .i64 b.pWest, .int .i64 b.pSouth, .int .i64 b.pSide, .int .i64 b.pFrom, .int .i64 b.pTo] := hW0 ▸ Bx.new w [.int .i64 b.pWest, .int .i64 b.pSouth, .int .i64 b.pSide, .int .i64 b.pFrom, .int .i64 b.pTo] 25
  have z0 := N0.size
  have h0 := h.below (N0.mono hB)
  have CL := Lib.hid (fun u hu => specLst xs v u W0 B h0 (Nat.le_trans hB z0) hl hu)
  have CC := Lib.hid (fun u W (q : Below W0.heap.size W0 W) hok hb hu => specCan xs v b u W B (h0.below (q.mono (by omega))) (Nat.le_trans hB (Nat.le_trans z0 q.size)) hok hb hu)
  obtain ⟨ao, cap, rfl⟩ := h.form
  clear h h0
  cases h1 : lstB xs with
  | false =>
    have C1 := Lib.hid (CL.out false h1)
    have e : okPo xs b = false := by unfold okPo; rw [h1]; rfl
    have HF := Lib.hid (no2b (show resPo xs b = false by unfold resPo; rw [e]; rfl) e)
    clear h1 e CL CC
    go_enter Try.func19, Try.ntmps19
    go_wp2_with fail
    refine C1.out.mono ?_
    rintro e w1 ⟨rfl, hb⟩
    go_wp2
    go_ret2
    exact ⟨HF.out, N0.trans (hb.mono z0)⟩
  | true =>
  have C1 := Lib.hid (CL.out true h1)
  cases h2 : goodCb b with
  | false =>
    have C2 := Lib.hid (fun W => specGoodCb b false W h2)
    have e : okPo xs b = false := by unfold okPo; rw [h2, Bool.and_false]
    have HF := Lib.hid (no2b (show resPo xs b = false by unfold resPo; rw [e]; rfl) e)
    clear h1 h2 e CL CC
    go_enter Try.func19, Try.ntmps19
    go_wp2_with fail
    refine C1.out.mono ?_
    rintro e w1 ⟨rfl, hb⟩
    have N1 := N0.trans (hb.mono z0)
    have bB1 := bB.below hb
    have a0 := bB1.2 0 _ rfl
    have a1 := bB1.2 1 _ rfl
    have a2 := bB1.2 2 _ rfl
    have a3 := bB1.2 3 _ rfl
    have a4 := bB1.2 4 _ rfl
    clear bB1 bB hb
    go_wp2_with fail
    refine (C2.out _).mono ?_
    rintro e w2 ⟨rfl, hb⟩
    go_wp2
    go_ret2
    exact ⟨HF.out, N1.trans (hb.mono N1.size)⟩
  | true =>
  have C2 := Lib.hid (fun W => specGoodCb b true W h2)
  have e : okPo xs b = true := okPo_mk h1 (goodCb_yes h2)
  obtain ⟨u, hu⟩ : ∃ u, canV xs b = u := ⟨_, rfl⟩
  have C3 := Lib.hid (fun W q => CC.out u W q (lstB_yes h1).1 (goodCb_yes h2) hu)
  have HF := Lib.hid (yes2b (show resPo xs b = u by unfold resPo; rw [e, hu]; rfl) e)
  clear h1 h2 e CL CC hu
  go_enter Try.func19, Try.ntmps19
  go_wp2_with fail
  refine C1.out.mono ?_
  rintro e w1 ⟨rfl, hb⟩
  have N1 := N0.trans (hb.mono z0)
  have bB1 := bB.below hb
  have a0 := bB1.2 0 _ rfl
  have a1 := bB1.2 1 _ rfl
  have a2 := bB1.2 2 _ rfl
  have a3 := bB1.2 3 _ rfl
  have a4 := bB1.2 4 _ rfl
  clear bB
  go_wp2_with fail
  refine (C2.out _).mono ?_
  rintro e w2 ⟨rfl, hb2⟩
  have hb3 := hb.trans (hb2.mono hb.size)
  have N2 := N1.trans (hb2.mono N1.size)
  have bB2 := bB1.below hb2
  clear a0 a1 a2 a3 a4 hb hb2 bB1
  have a0 := bB2.2 0 _ rfl
  have a1 := bB2.2 1 _ rfl
  have a2 := bB2.2 2 _ rfl
  have a3 := bB2.2 3 _ rfl
  have a4 := bB2.2 4 _ rfl
  clear bB2
  go_wp2_with fail
  refine (C3.out _ hb3).mono ?_
  rintro e w3 ⟨rfl, hb⟩
  go_wp2
  go_ret2
  exact ⟨HF.out, N2.trans (hb.mono N2.size)⟩
end Go.Proofs.Ytoogofceoinniaa
