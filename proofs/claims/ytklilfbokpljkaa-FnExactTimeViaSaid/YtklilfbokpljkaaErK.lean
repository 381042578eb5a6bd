/- Models of the ground: the program's TimeTo, MeanSpeedTo. -/
import Derived.Test.YtklilfbokpljkaaErJ
namespace Go.Proofs.Ytklilfbokpljkaa
open Go.ChangeShapes Go.WideShapes Go.ChangeAt Go.RowKit Go.ChangeMaps Go.Sort
set_option linter.unusedSimpArgs false
set_option linter.unusedVariables false
set_option linter.unusedSimpArgs false
set_option linter.unusedVariables false

/-- What is left of a depth below k layers. -/
def restE (xs : List GEarth) (d : Int) (k : Nat) : Int := if d - depE (xs.take k) < 0 then 0 else d - depE (xs.take k)
theorem restE_zero {xs : List GEarth} {d : Int} (h : 0 ≤ d) : restE xs d 0 = d := by unfold restE; rw [List.take_zero, depE_nil, if_neg (by omega)]; omega
theorem restE_succ {xs : List GEarth} {d : Int} {k : Nat} {e : GEarth} (he : xs[k]? = some e) (h : okEa e) : restE xs d (k + 1) = restE xs d k - inE xs d k e := by
  unfold restE inE
  rw [depE_snoc he]
  unfold okEa at h
  split <;> split <;> (try split) <;> omega
theorem in_rest {xs : List GEarth} {d : Int} {k : Nat} {e : GEarth} (h : okEa e) : (e.pThick < restE xs d k → inE xs d k e = e.pThick) ∧ (¬ e.pThick < restE xs d k → inE xs d k e = restE xs d k) := by
  unfold restE inE
  unfold okEa at h
  constructor
  · intro q
    split at q
    · omega
    · rename_i g; rw [if_neg g, if_pos q]
  · intro q
    split at q
    · rename_i g; rw [if_pos g, if_pos g]
    · rename_i g; rw [if_neg g, if_neg q, if_neg g]
theorem restE_bd {xs : List GEarth} (h : okE xs) {d : Int} (h0 : 0 ≤ d) (h1 : d ≤ 1000) {k : Nat} (hk : k ≤ xs.length) : 0 ≤ restE xs d k ∧ restE xs d k ≤ 1000 := by
  have := depE_bd h k hk
  unfold restE
  split <;> omega
set_option maxRecDepth 100000 in
set_option maxHeartbeats 4000000 in
theorem implTo3 (xs : List GEarth) (v : Value) (d : Int) (w : World) (B : Nat) (h : EarthL w B v xs) (hB : B ≤ w.heap.size) (hn : szsEarth xs ≤ 1048576) (hw : ∀ s ∈ xs, wfEarth s) (_ : I64 d) :
    Calls Try.prog 23 #[v, .int .i64 d] w fun e w' => e = .returned (.tuple #[.int .i64 (numTo xs d), .int .i64 (denTo xs d), .bool (okTo xs d)]) ∧ Below w.heap.size w w' := by
  have hl := Nat.le_trans (szsEarth_len xs) hn
  have C := implMd xs v w B h hB hn hw
  cases hg : goodE xs with
  | false =>
    have e1 : okMd xs = false := by unfold okMd; exact hg
    have e2 : numMd xs = 0 := by unfold numMd; rw [e1]; rfl
    rw [e1, e2] at C
    have HF := Lib.hid (noTo (xs := xs) (d := d) (by unfold okTo; rw [hg]; rfl))
    have C := Lib.hid C
    obtain ⟨ao, cap, rfl⟩ := h.form
    clear h hg e1 e2
    go_enter Try.func23, Try.ntmps23
    go_wp2_with fail
    refine C.out.mono ?_
    rintro e w1 ⟨rfl, hb⟩
    go_wp2
    go_ret3
    exact ⟨HF.out, hb⟩
  | true =>
    have e1 : okMd xs = true := by unfold okMd; exact hg
    obtain ⟨dp, hdp⟩ : ∃ dp, depE xs = dp := ⟨_, rfl⟩
    have e2 : numMd xs = dp := by unfold numMd; rw [e1, ← hdp]; rfl
    rw [e1, e2] at C
    have C := Lib.hid C
    have hok := goodE_yes hg
    have hda := depE_all hok
    rw [hdp] at hda
    have CI := Lib.hid (fun (W : World) u hu => withinOne 0 dp d W.heap.size u _ (Bx.new W [.int .i64 d] 3) hu)
    by_cases hd : 0 ≤ d ∧ d ≤ dp
    case neg =>
      have CI := Lib.hid (fun W => CI.out W false (decide_eq_false hd))
      have HF := Lib.hid (noTo (xs := xs) (d := d) (by unfold okTo; rw [hdp, decide_eq_false hd, Bool.and_false]))
      obtain ⟨ao, cap, rfl⟩ := h.form
      clear h hg hd hdp hok e1 e2
      go_enter Try.func23, Try.ntmps23
      go_wp2_with fail
      refine C.out.mono ?_
      rintro e w1 ⟨rfl, hb⟩
      have N1 := hb.alloc hb.size (.cells #[.int .i64 d] 3)
      go_wp2_with fail
      refine (CI.out w1).mono ?_
      rintro e w2 ⟨rfl, hw⟩
      subst hw
      go_wp2
      go_ret3
      exact ⟨HF.out, N1⟩
    have CI := Lib.hid (fun W => CI.out W true (decide_eq_true hd))
    have CT := Lib.hid (fun W (q : Below w.heap.size w W) => implTvl xs v W B (h.below (q.mono hB)) (Nat.le_trans hB q.size) hok)
    have HY := Lib.hid (yesTo (xs := xs) (d := d) (by unfold okTo; rw [hg, hdp, decide_eq_true hd]; rfl) rfl rfl)
    have tb := toE_bd hok d xs.length (Nat.le_refl _)
    have CR := Lib.hid (fun W => implRed (toE (prodE xs) xs d xs.length) (prodE xs) W (by omega) (by have := hok.1; omega) (prodE_all hok).1 (by have := prodE_all hok; omega))
    unfold RedPost at CR
    generalize numR (toE (prodE xs) xs d xs.length) (prodE xs) = nu at *
    generalize denR (toE (prodE xs) xs d xs.length) (prodE xs) = de at *
    have HO := Lib.hid hok
    have HTV : Hid (∀ i, i < xs.length → (tvE xs)[2 + i]? = some (.int .i64 (fkU (prodE xs) xs xs.length i))) := Lib.hid (fun i hi => tvG_fk (by have := hok.1; omega))
    have HFK : Hid (∀ e ∈ xs, 1 ≤ fkE (prodE xs) e ∧ fkE (prodE xs) e ≤ 6250000) := Lib.hid (fun e he => (fkE_bd hok he).2)
    have HBD : Hid (∀ k, k ≤ xs.length → 0 ≤ toE (prodE xs) xs d k ∧ toE (prodE xs) xs d k ≤ 1250000000 * k) := Lib.hid (toE_bd hok d)
    obtain ⟨f0, f1, f2, f3, f4, t0, t1, t2, t3, t4, ht⟩ := tvE_form xs
    have hl5 := hok.1.2
    rw [ht] at CT HTV
    generalize prodE xs = P at *
    obtain ⟨hd0, hd1⟩ := hd
    obtain ⟨ao, cap, rfl, hcap, hmax, -, hc⟩ := h
    have HC := Lib.hid hc
    clear hc hg hdp hok e1 e2 tb ht
    go_enter Try.func23, Try.ntmps23
    go_wp2_with fail
    refine C.out.mono ?_
    rintro e w1 ⟨rfl, hb⟩
    have N1 := hb.alloc hb.size (.cells #[.int .i64 d] 3)
    go_wp2_with fail
    refine (CI.out w1).mono ?_
    rintro e w2 ⟨rfl, hw⟩
    subst hw
    go_wp2_with fail
    refine (CT.out _ N1).mono ?_
    rintro e w3 ⟨rfl, hb3⟩
    have N3 := N1.trans (hb3.mono N1.size)
    have bx0 := Bx.new w3 [.int .i64 xs.length, .int .i64 P, .int .i64 f0, .int .i64 f1, .int .i64 f2, .int .i64 f3, .int .i64 f4, .int .i64 t0, .int .i64 t1, .int .i64 t2, .int .i64 t3, .int .i64 t4] 89
    have N4 := N3.alloc N3.size (.cells #[.int .i64 xs.length, .int .i64 P, .int .i64 f0, .int .i64 f1, .int .i64 f2, .int .i64 f3, .int .i64 f4, .int .i64 t0, .int .i64 t1, .int .i64 t2, .int .i64 t3, .int .i64 t4] 89)
    clear hb hb3 N1 N3
    go_wp2
    go_loopw [10, 11, 36] (fun s r i wr => ∃ (k : Nat), k ≤ xs.length ∧ i = .int .i64 k ∧ s = .int .i64 (toE P xs d k) ∧ r = .int .i64 (restE xs d k) ∧ Bx wr w3.heap.size [.int .i64 xs.length, .int .i64 P, .int .i64 f0, .int .i64 f1, .int .i64 f2, .int .i64 f3, .int .i64 f4, .int .i64 t0, .int .i64 t1, .int .i64 t2, .int .i64 t3, .int .i64 t4] ∧ Below w.heap.size w wr) (fun _ _ i _ => xs.length - (intOf i).toNat)
    case atStart => exact ⟨0, Nat.zero_le _, rfl, rfl, by rw [restE_zero hd0], bx0, N4⟩
    case round =>
      clear bx0 N4
      obtain ⟨k, hk, rfl, rfl, rfl, bx, hbl⟩ := hrel
      have hsz := hbl.size
      by_cases hlt : k < xs.length
      case pos =>
        obtain ⟨m, hm⟩ := get_of_lt hlt
        obtain ⟨b, off, rfl, hb, hcell⟩ := HC.out k m hm
        have c0 : wr.cell? ⟨b, off + k * 2, none⟩ = some (.int .i64 m.pThick) := cellOf hbl (by omega) (hcell 0 _ rfl)
        have c1 : wr.cell? ⟨b, off + k * 2 + 1, none⟩ = some (.int .i64 m.pSpeed) := cellOf hbl (by omega) (hcell 1 _ rfl)
        have hi0 : (0 : Int) ≤ (k : Int) := by omega
        have hi1 : (k : Int) < (xs.length : Int) := by omega
        have hi2 : (xs.length : Int) ≤ 5 := by omega
        have hi3 : (k : Int) < 5 := by omega
        have hi4 : k < 5 := by omega
        have ho := okE_at HO.out hm
        have bxa := bx.alloc (.cells #[.int .i64 m.pThick, .int .i64 m.pSpeed] 83)
        have y1 := bxa.2 (2 + k) _ (HTV.out k hlt)
        rw [fkU_at hlt hm] at y1
        have N1 := hbl.alloc hsz (.cells #[.int .i64 m.pThick, .int .i64 m.pSpeed] 83)
        have q1 := HFK.out m (List.mem_of_getElem? hm)
        have q2 := HBD.out k hk
        have HT : Hid (toE P xs d (k + 1) = toE P xs d k + inE xs d k m * fkE P m) := Lib.hid (toE_succ hm)
        have HRS : Hid (restE xs d (k + 1) = restE xs d k - inE xs d k m) := Lib.hid (restE_succ hm ho)
        have hir := in_rest (xs := xs) (d := d) (k := k) ho
        have hib := inE_bd (xs := xs) (d := d) (k := k) ho
        have hrb := restE_bd HO.out hd0 (by omega) hk
        obtain ⟨⟨ho0, ho1⟩, ho2, ho3⟩ := ho
        generalize toE P xs d k = t at *
        generalize restE xs d k = r at *
        generalize inE xs d k m = p at *
        generalize fkE P m = fk at *
        have m1 := mul_bdE (A := 200) (C := 6250000) hib.1 hib.2 (show 0 ≤ fk by omega) q1.2
        have s1 : IntKind.i64.wrap (p * fk) = p * fk := IntWalk.i64_in _ (by omega)
        have s2 : IntKind.i64.wrap (t + p * fk) = t + p * fk := IntWalk.i64_in _ (by omega)
        have s3 : IntKind.i64.wrap (r - p) = r - p := IntWalk.i64_in _ (by omega)
        have hmin : (if m.pThick < r then m.pThick else r) = p := by
          split
          · rename_i g; exact (hir.1 g).symm
          · rename_i g; exact (hir.2 g).symm
        clear m1 hm hcell q1 q2 hib hrb hir
        go_wp2
        go_roundw
        case rel => exact ⟨k + 1, by omega, by go_num, by rw [HT.out], by rw [HRS.out], bxa, N1⟩
        case measure => simp [intOf]; omega
      case neg =>
        obtain rfl : k = xs.length := by omega
        have c1 := bx.2 1 _ rfl
        generalize toE P xs d xs.length = t at *
        go_wp2_with fail
        refine (CR.out _).mono ?_
        rintro e w5 ⟨rfl, hd5⟩
        have N5 := hbl.trans ((hd5.below w.heap.size))
        go_wp2
        go_ret3
        exact ⟨HY.out, N5⟩
set_option maxRecDepth 100000 in
set_option maxHeartbeats 4000000 in
theorem implMs (xs : List GEarth) (v : Value) (d : Int) (w : World) (B : Nat) (h : EarthL w B v xs) (hB : B ≤ w.heap.size) (hn : szsEarth xs ≤ 1048576) (hw : ∀ s ∈ xs, wfEarth s) (hd6 : I64 d) :
    Calls Try.prog 21 #[v, .int .i64 d] w fun e w' => e = .returned (.tuple #[.int .i64 (numMs xs d), .int .i64 (denMs xs d), .bool (okMs xs d)]) ∧ Below w.heap.size w w' := by
  have C := implTo3 xs v d w B h hB hn hw hd6
  cases ht : okTo xs d with
  | false =>
    rw [ht] at C
    have HF := Lib.hid (noMs (xs := xs) (d := d) (by
      unfold okTo at ht
      unfold okMs
      cases hg : goodE xs with
      | false => rfl
      | true =>
        rw [hg, Bool.true_and] at ht
        have := of_decide_eq_false ht
        rw [Bool.true_and]
        exact decide_eq_false (by omega)))
    have C := Lib.hid C
    generalize numTo xs d = n0 at *
    generalize denTo xs d = d0 at *
    obtain ⟨ao, cap, rfl⟩ := h.form
    clear h ht
    go_enter Try.func21, Try.ntmps21
    go_wp2_with fail
    refine C.out.mono ?_
    rintro e w1 ⟨rfl, hb⟩
    go_wp2
    go_ret3
    exact ⟨HF.out, hb⟩
  | true =>
    have hnu : numTo xs d = numR (toE (prodE xs) xs d xs.length) (prodE xs) := by unfold numTo; rw [ht]; rfl
    have hde : denTo xs d = denR (toE (prodE xs) xs d xs.length) (prodE xs) := by unfold denTo; rw [ht]; rfl
    rw [ht, hnu, hde] at C
    have ht2 := ht
    unfold okTo at ht2
    rw [Bool.and_eq_true] at ht2
    have hok := goodE_yes ht2.1
    have hdd := of_decide_eq_true ht2.2
    have hda := depE_all hok
    by_cases h0 : d = 0
    case pos =>
      have HF := Lib.hid (noMs (xs := xs) (d := d) (by unfold okMs; rw [show decide (1 ≤ d ∧ d ≤ depE xs) = false from decide_eq_false (by omega), Bool.and_false]))
      have C := Lib.hid C
      have g : (d == 0) = true := by simpa using h0
      generalize numR (toE (prodE xs) xs d xs.length) (prodE xs) = n0 at *
      generalize denR (toE (prodE xs) xs d xs.length) (prodE xs) = d0 at *
      obtain ⟨ao, cap, rfl⟩ := h.form
      clear h ht ht2 hnu hde hok hdd hda h0
      go_enter Try.func21, Try.ntmps21
      go_wp2_with fail
      refine C.out.mono ?_
      rintro e w1 ⟨rfl, hb⟩
      go_wp2
      go_ret3
      exact ⟨HF.out, hb⟩
    have HF := Lib.hid (yesMs (xs := xs) (d := d) (by unfold okMs; rw [ht2.1, show decide (1 ≤ d ∧ d ≤ depE xs) = true from decide_eq_true (by omega)]; rfl) rfl rfl)
    have tb := to_bd hok d
    have tp := num_pos (P := prodE xs) (toE_all hok (d := d) (by omega))
    generalize numR (toE (prodE xs) xs d xs.length) (prodE xs) = nu at *
    generalize denR (toE (prodE xs) xs d xs.length) (prodE xs) = de at *
    have m1 := mul_bdE (A := 1000) (C := 312500000) (show 0 ≤ d by omega) (show d ≤ 1000 by omega) (show 0 ≤ de by omega) tb.2.2
    have s1 : IntKind.i64.wrap (d * de) = d * de := IntWalk.i64_in _ (by omega)
    have CR := Lib.hid (fun W => implRed (d * de) nu W (by omega) (by omega) (by omega) (by omega))
    unfold RedPost at CR
    generalize numR (d * de) nu = nu2 at *
    generalize denR (d * de) nu = de2 at *
    have C := Lib.hid C
    have g : (d == 0) = false := by simpa using h0
    obtain ⟨ao, cap, rfl⟩ := h.form
    clear h ht ht2 hnu hde hok hdd hda tb tp m1
    go_enter Try.func21, Try.ntmps21
    go_wp2_with fail
    refine C.out.mono ?_
    rintro e w1 ⟨rfl, hb⟩
    go_wp2_with fail
    refine (CR.out _).mono ?_
    rintro e w2 ⟨rfl, hd2⟩
    have N2 := hb.trans (hd2.below w.heap.size)
    go_wp2
    go_ret3
    exact ⟨HF.out, N2⟩
end Go.Proofs.Ytklilfbokpljkaa
