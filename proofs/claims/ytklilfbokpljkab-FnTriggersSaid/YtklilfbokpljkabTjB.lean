/- Triggers: the program's ratio at a place, its two tests. -/
import Derived.Test.YtklilfbokpljkabTjA
namespace Go.Proofs.Ytklilfbokpljkab
open Go.ChangeShapes Go.WideShapes Go.ChangeAt Go.RowKit Go.ChangeMaps Go.Sort
set_option linter.unusedSimpArgs false
set_option linter.unusedVariables false
set_option linter.unusedSimpArgs false
set_option linter.unusedVariables false

set_option maxRecDepth 100000 in
set_option maxHeartbeats 2000000 in
/-- The ratio at a place, in lowest terms. -/
theorem ratioT (xs : List Int) (ao : Option Addr) (cap : Nat) (s : GSetting) (p : Nat) (n d : Int) (w : World) (B : Nat) (h : Lst (Value.int .i64) w B (.slice ao xs.length cap) xs) (hB : B ≤ w.heap.size) (hx : okL xs = true) (hs : okS s)
    (h0 : s.pLong ≤ (p : Int) + 1) (hp : p < xs.length) (hn : numR (nT xs s p) (dT xs s p) = n) (hd : denR (nT xs s p) (dT xs s p) = d) :
    Calls Try.prog 77 #[aggT ao xs.length cap s, .int .i64 p] w fun e w' => e = .returned (.agg #[.int .i64 n, .int .i64 d]) ∧ Below w.heap.size w w' := by
  obtain ⟨hx1, hx2⟩ := okL_yes hx
  obtain ⟨⟨a1, a2⟩, ⟨b1, b2⟩, -, -⟩ := id hs
  have ml := wA_bd hx1 (n := s.pLong.toNat) (p := p) (by omega) hp
  have ms := wA_bd hx1 (n := s.pShort.toNat) (p := p) (by omega) hp
  have CL := Lib.hid (fun W (q : Below w.heap.size w W) => loudnessT xs ao cap s p s.pLong _ W B (h.below (q.mono hB)) (Nat.le_trans hB q.size) hx1 hx2 (by omega) h0 hp rfl)
  have CS := Lib.hid (fun W (q : Below w.heap.size w W) => loudnessT xs ao cap s p s.pShort _ W B (h.below (q.mono hB)) (Nat.le_trans hB q.size) hx1 hx2 a1 (by omega) hp rfl)
  have HB := nT_bd hx1 hs h0 hp
  have N0 := ((Below.refl w.heap.size w).alloc (Nat.le_refl _) (.cells #[.slice ao xs.length cap, .int .i64 s.pShort, .int .i64 s.pLong, .int .i64 s.pOn, .int .i64 s.pOff] 78)).alloc (by first | omega | (simp; done) | (simp; omega)) (.cells #[.int .i64 0, .int .i64 0] 87)
  have bt := (Bx.new w (celT ao xs.length cap s) 78).alloc (.cells #[.int .i64 0, .int .i64 0] 87)
  have br := Bx.new1 w (.cells (celT ao xs.length cap s).toArray 78) [.int .i64 0, .int .i64 0] 87
  have hnT : nT xs s p = if wA xs s.pLong.toNat p = 0 then 0 else wA xs s.pShort.toNat p * s.pLong := rfl
  have hdT : dT xs s p = if wA xs s.pLong.toNat p = 0 then 1 else wA xs s.pLong.toNat p * s.pShort := rfl
  generalize nT xs s p = nn at *
  generalize dT xs s p = dd at *
  generalize wA xs s.pLong.toNat p = lg at *
  generalize wA xs s.pShort.toNat p = sh at *
  clear h hx hs hx1
  go_enter Try.func77, Try.ntmps77
  go_wp2_with fail
  refine (CS.out _ N0).mono ?_
  rintro e w1 ⟨rfl, hb⟩
  have N1 := N0.trans (hb.mono N0.size)
  have bt1 := bt.below hb
  have br1 := br.below hb
  clear hb N0 bt br
  have c0 := bt1.2 0 _ rfl
  have c1 := bt1.2 1 _ rfl
  have c2 := bt1.2 2 _ rfl
  have c3 := bt1.2 3 _ rfl
  have c4 := bt1.2 4 _ rfl
  go_wp2_with fail
  refine (CL.out _ N1).mono ?_
  rintro e w2 ⟨rfl, hb⟩
  have N2 := N1.trans (hb.mono N1.size)
  have bt2 := bt1.below hb
  have br2 := br1.below hb
  clear hb N1 bt1 br1 c0 c1 c2 c3 c4
  have c0 := bt2.2 0 _ rfl
  have c1 := bt2.2 1 _ rfl
  have c2 := bt2.2 2 _ rfl
  have c3 := bt2.2 3 _ rfl
  have c4 := bt2.2 4 _ rfl
  have r0 := br2.2 0 _ rfl
  have r1 := br2.2 1 _ rfl
  have rf := br2.1.2
  by_cases hq : lg = 0
  · rw [if_pos hq] at hnT hdT
    subst hnT hdT hq
    have hn0 : n = 0 := by rw [← hn]; rfl
    have hd1 : d = 1 := by rw [← hd]; rfl
    subst hn0 hd1
    clear hn hd
    go_wp2
    refine bodyPost_ret (v := .agg #[.int .i64 0, .int .i64 1]) (by simp [results, Try.results77, go_sem, r0, r1]) rfl ⟨rfl, ?_⟩
    exact (N2.setCell (by first | omega | (simp; done) | (simp; omega)) _).setCell (by first | omega | (simp; done) | (simp; omega)) _
  · rw [if_neg hq] at hnT hdT
    have m1 := mul_bdQ (A := 500000) (B := 20) ms.1 (by omega) (show 0 ≤ s.pLong by omega) b2
    have m2 := mul_bdQ (A := 2000000) (B := 5) ml.1 (by omega) (show 0 ≤ s.pShort by omega) a2
    have s1 : IntKind.i64.wrap (sh * s.pLong) = nn := by rw [hnT]; exact IntWalk.i64_in _ (by omega)
    have s2 : IntKind.i64.wrap (lg * s.pShort) = dd := by rw [hdT]; exact IntWalk.i64_in _ (by omega)
    have s3 : wrap64 (sh * s.pLong) = nn := by rw [hnT]; unfold wrap64; omega
    have s4 : wrap64 (lg * s.pShort) = dd := by rw [hdT]; unfold wrap64; omega
    have hq1 : (lg == 0) = false := by simpa using hq
    have CD := Lib.hid (fun W => implRed nn dd W (by omega) (by omega) (by omega) (by omega))
    have HN := Lib.hid hn
    have HD := Lib.hid hd
    clear m1 m2 hnT hdT ml ms hn hd
    go_wp2_with fail
    refine (CD.out _).mono ?_
    rintro e w3 ⟨rfl, hdr⟩
    rw [HN.out, HD.out]
    have N3 := N2.trans (hdr.below _)
    have br3 := br2.below (hdr.below _)
    clear c0 c1 c2 c3 c4 r0 r1 rf bt2 br2 N2 hdr
    have r0 := br3.2 0 _ rfl
    have r1 := br3.2 1 _ rfl
    have rf := br3.1.2
    go_wp2
    refine bodyPost_ret (v := .agg #[.int .i64 n, .int .i64 d]) (by simp [results, Try.results77, go_sem, r0, r1]) rfl ⟨rfl, ?_⟩
    exact (N3.setCell (by first | omega | (simp; done) | (simp; omega)) _).setCell (by first | omega | (simp; done) | (simp; omega)) _
end Go.Proofs.Ytklilfbokpljkab
