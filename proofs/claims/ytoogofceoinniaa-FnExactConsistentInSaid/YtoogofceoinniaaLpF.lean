/- Location by boxes: the program's location. -/
import Derived.Test.YtoogofceoinniaaLpE
import Derived.Test.YtoogofceoinniaaLpD
namespace Go.Proofs.Ytoogofceoinniaa
open Go.ChangeShapes Go.WideShapes Go.ChangeAt Go.RowKit Go.ChangeMaps Go.Sort Go.Shelf
set_option linter.unusedSimpArgs false
set_option linter.unusedVariables false
set_option linter.unusedSimpArgs false
set_option linter.unusedVariables false

theorem asc_strict {l o : List GCube} (hn : l.Nodup) {b : GCube} {s : Int} (h : ∀ c ∈ l, cellIn b s c) (hp : o.Perm l) (ha : ascCb o) : o.Pairwise fun a b => befC a b = true := by
  have h2 : o.Pairwise (· ≠ ·) := hp.nodup_iff.2 hn
  refine (ha.and h2).imp_of_mem ?_
  rintro p q hp1 hq1 ⟨g1, g2⟩
  rcases cell_ne (h p (hp.mem_iff.1 hp1)) (h q (hp.mem_iff.1 hq1)) g2 with k | k
  · exact k
  · rw [k] at g1; exact absurd g1 (by decide)
theorem ask_eq (xs : List GArrival) (b : GCube) (s : Int) : askLo xs b s = (okPo xs b && (sideB s && decide (s ≤ b.pSide))) := by
  unfold askLo okPo
  rw [Bool.and_assoc]
set_option maxRecDepth 100000 in
set_option maxHeartbeats 16000000 in
theorem implLo (xs : List GArrival) (v : Value) (b : GCube) (v2 : Value) (s : Int) (w : World) (B : Nat) (h : ArrivalL w B v xs) (h2 : CubeVL w B v2 b) (hB : B ≤ w.heap.size) (hn : szsArrival xs ≤ 1048576) (_ : sz1Cube b ≤ 1048576) (hw : ∀ s ∈ xs, wfArrival s) (hw2 : wfCube b) (_ : I64 s) :
    Calls Try.prog 29 #[v, v2, .int .i64 s] w fun e w' => ∃ v', e = .returned (.tuple #[v', .bool (okLo xs b s)]) ∧ CubeO w' w.heap.size w'.heap.size v' (resLo xs b s) ∧ Below w.heap.size w w' := by
  obtain rfl := h2.form
  clear h2
  have hl := Nat.le_trans (szsArrival_len xs) hn
  obtain ⟨W0, hW0⟩ : ∃ W0, w.alloc (objCb b) = W0 := ⟨_, rfl⟩
  have N0 : Below w.heap.size w W0 := hW0 ▸ (Below.refl w.heap.size w).alloc (Nat.le_refl _) _
  have bB : Bx W0 w.heap.size [.int .i64 b.pWest, .int .i64 b.pSouth, .int .i64 b.pSide, .int .i64 b.pFrom, .int .i64 b.pTo] := hW0 ▸ Bx.new w [.int .i64 b.pWest, .int .i64 b.pSouth, .int .i64 b.pSide, .int .i64 b.pFrom, .int .i64 b.pTo] 25
  have z0 := N0.size
  have b0 := bB.2 0 _ rfl
  have b1 := bB.2 1 _ rfl
  have b2 := bB.2 2 _ rfl
  have b3 := bB.2 3 _ rfl
  have b4 := bB.2 4 _ rfl
  have CA := Lib.hid (fun u hu => implCanLoc xs v b u W0 B (h.below (N0.mono hB)) (Nat.le_trans hB z0) hl hu)
  have HL := Lib.hid (fun W (q : Below w.heap.size w W) => h.below (q.mono hB))
  obtain ⟨ao, cap, rfl⟩ := h.form
  clear h
  generalize hok0 : okLo xs b s = ok0
  generalize hres0 : resLo xs b s = res0
  have HO0 := Lib.hid hok0
  have HR0 := Lib.hid hres0
  have HASK := Lib.hid (ask_eq xs b s)
  have HNO : Hid (askLo xs b s = false → ok0 = false ∧ res0 = []) := Lib.hid (fun q => ⟨by rw [← HO0.out, okLo_ask q], by rw [← HR0.out, resLo_no (okLo_ask q)]⟩)
  clear hok0 hres0
  cases h1 : okPo xs b with
  | false =>
    have C1 := Lib.hid (CA.out false h1)
    obtain ⟨rfl, rfl⟩ := HNO.out (by rw [HASK.out, h1]; rfl)
    clear h1 CA
    go_enter Try.func29, Try.ntmps29
    go_wp2_with fail
    refine C1.out.mono ?_
    rintro e w1 ⟨rfl, hb⟩
    have N1 := N0.trans (hb.mono z0)
    clear b0 b1 b2 b3 b4
    go_wp2
    go_ret2
    exact ⟨_, rfl, ownK_empty encCube_len (by omega) _ 25 N1.size, N1.alloc N1.size _⟩
  | true =>
  have C1 := Lib.hid (CA.out true h1)
  cases h3 : sideB s with
  | false =>
    have C3 := Lib.hid (fun W => implSide s false W h3)
    obtain ⟨rfl, rfl⟩ := HNO.out (by rw [HASK.out, h3]; simp)
    clear h1 h3 CA
    go_enter Try.func29, Try.ntmps29
    go_wp2_with fail
    refine C1.out.mono ?_
    rintro e w1 ⟨rfl, hb⟩
    have N1 := N0.trans (hb.mono z0)
    clear b0 b1 b2 b3 b4 hb
    go_wp2_with fail
    refine (C3.out _).mono ?_
    rintro e w2 ⟨rfl, hb⟩
    have N2 := N1.trans (hb.mono N1.size)
    go_wp2
    go_ret2
    exact ⟨_, rfl, ownK_empty encCube_len (by omega) _ 25 N2.size, N2.alloc N2.size _⟩
  | true =>
  have C3 := Lib.hid (fun W => implSide s true W h3)
  by_cases h4 : s ≤ b.pSide
  case neg =>
    obtain ⟨rfl, rfl⟩ := HNO.out (by rw [HASK.out, decide_eq_false h4]; simp)
    have h5 : b.pSide < s := by omega
    clear h1 h3 CA
    go_enter Try.func29, Try.ntmps29
    go_wp2_with fail
    refine C1.out.mono ?_
    rintro e w1 ⟨rfl, hb⟩
    have N1 := N0.trans (hb.mono z0)
    have bB1 := bB.below hb
    clear b0 b1 b2 b3 b4 hb bB
    go_wp2_with fail
    refine (C3.out _).mono ?_
    rintro e w2 ⟨rfl, hb⟩
    have N2 := N1.trans (hb.mono N1.size)
    have bB2 := bB1.below hb
    have b2 := bB2.2 2 _ rfl
    clear hb bB1 bB2
    go_wp2
    go_ret2
    exact ⟨_, rfl, ownK_empty encCube_len (by omega) _ 25 N2.size, N2.alloc N2.size _⟩
  have hk : askLo xs b s = true := by rw [HASK.out, h1, h3, decide_eq_true h4]; rfl
  have h5 : ¬ b.pSide < s := by omega
  obtain ⟨g1, g2, g3, g4⟩ := askLo_yes hk
  have he9 := exp_nine g2 g3 (expC_eq hk)
  have CT := Lib.hid (fun W (q : Below w.heap.size w W) => implTree xs s (lstB_yes g1).1 g3 (expC b s) b (.slice ao xs.length cap) W B g2 (expC_eq hk) (HL.out W q) (Nat.le_trans hB q.size))
  have CW := Lib.hid (fun v r W L (hT : TreeV W L W.heap.size s (expC b s) v r) hr => implCubes s (expC b s) v r W L W.heap.size hT (Nat.le_refl _) hr)
  have HFN := Lib.hid (fullV_nodup hk)
  have HFI := Lib.hid (fun c hc => ((fullV_mem hk c).1 hc).1)
  have HK := Lib.hid hk
  have HFV : Hid (allV xs (expC b s) b = fullV xs b s) := Lib.hid rfl
  have HLEN : Hid (∀ r, cutC r (fullV xs b s) 64 → r.length ≤ 262144) := Lib.hid (fun r hr => Nat.le_trans (cutC_most hr (allV_most xs (expC b s) b)) (pow_nine he9))
  generalize expC b s = ex at *
  clear hk g1 g2 g3 g4 CA hw hw2 h1 h3
  go_enter Try.func29, Try.ntmps29
  go_wp2_with fail
  refine C1.out.mono ?_
  rintro e w1 ⟨rfl, hb⟩
  have N1 := N0.trans (hb.mono z0)
  have bB1 := bB.below hb
  clear b0 b1 b2 b3 b4 hb bB
  go_wp2_with fail
  refine (C3.out _).mono ?_
  rintro e w2 ⟨rfl, hb⟩
  have N2 := N1.trans (hb.mono N1.size)
  have bB2 := bB1.below hb
  have b0 := bB2.2 0 _ rfl
  have b1 := bB2.2 1 _ rfl
  have b2 := bB2.2 2 _ rfl
  have b3 := bB2.2 3 _ rfl
  have b4 := bB2.2 4 _ rfl
  clear hb bB1 bB2 N1
  go_wp2_with fail
  refine (CT.out _ N2).mono ?_
  rintro e w3 ⟨v3, rfl, r, hcut, htree, hb3⟩
  rw [HFV.out] at hcut
  have N3 := N2.trans (hb3.mono N2.size)
  have hr := HLEN.out r hcut
  have CW3 := Lib.hid (CW.out v3 r w3 _ htree hr)
  clear b0 b1 b2 b3 b4 hb3 htree
  go_wp2_with fail
  refine CW3.out.mono ?_
  rintro e w4 ⟨v4, rfl, hown, hb4⟩
  have N4 := N3.trans (hb4.mono N3.size)
  have ho := hown.mono N3.size (Nat.le_refl _)
  clear hb4 hown
  by_cases h64 : r.length ≤ 64
  case neg =>
    obtain rfl : ok0 = false := by rw [← HO0.out]; exact okLo_cut hcut (by omega)
    obtain rfl : res0 = [] := by rw [← HR0.out]; exact resLo_no (okLo_cut hcut (by omega))
    obtain ⟨ao3, cap3, rfl⟩ := ho.form
    have h65 : (64 : Int) < (r.length : Int) := by omega
    clear hcut ho
    go_wp2
    go_ret2
    exact ⟨_, rfl, ownK_empty encCube_len (by omega) _ 25 N4.size, N4.alloc N4.size _⟩
  have hr9 : r = fullV xs b s := by
    rcases hcut.2 with e | e
    · exact e
    · omega
  have hnd := HFN.out
  have hin := HFI.out
  rw [← hr9] at hnd hin
  obtain rfl : ok0 = true := by rw [← HO0.out]; exact okLo_few HK.out (by rw [← hr9]; exact h64)
  have HRES : Hid (∀ o, o.Perm r → ascCb o → o = res0) := Lib.hid (fun o hp ha => by rw [← HR0.out]; exact (resLo_one HK.out hcut h64 hp (asc_strict hnd hin hp ha)).2)
  have h65 : ¬ (64 : Int) < (r.length : Int) := by omega
  clear hnd hin hr9 hcut
  by_cases hn0 : r.length = 0
  case pos =>
    have e0 : r = [] := List.eq_nil_of_length_eq_zero hn0
    have HE : Hid (([] : List GCube) = res0) := Lib.hid (HRES.out [] (by rw [e0]) List.Pairwise.nil)
    obtain ⟨ao4, cap4, rfl⟩ := ho.form
    rw [e0] at ho
    rw [hn0]
    have SN := Lib.hid (fun fv => AnyF.slices_SortFunc_none Try.sortK_69 ao4 cap4 fv w4)
    clear e0 hn0 h65
    go_wp2_with fail
    refine (SN.out _).mono ?_
    rintro e w5 ⟨rfl, q5⟩
    obtain rfl : w4 = w5 := q5.symm
    go_wp2
    go_ret2
    exact ⟨_, rfl, by rw [← HE.out]; exact ho, N4⟩
  case neg =>
    obtain ⟨ao3, cap3, e3, hle3, hmax3, _, h3⟩ := _root_.id ho
    obtain ⟨s0, hs0⟩ := get_of_lt (l := r) (k := 0) (by omega)
    obtain ⟨g, off, e4, -⟩ := h3 0 s0 hs0
    subst e3
    subst e4
    have SN := Lib.hid (sortCb (xs := r) (by omega) (by omega) ho)
    clear h3 hs0 ho
    go_wp2_with fail
    refine SN.out.mono ?_
    rintro e w5 ⟨rfl, ⟨T, hT, hA, hO⟩, hb5⟩
    have HE := Lib.hid (HRES.out T hT hA)
    clear hT hA
    go_wp2
    go_ret2
    exact ⟨_, rfl, by rw [← HE.out]; exact hO, N4.trans hb5⟩
end Go.Proofs.Ytoogofceoinniaa
