/- Votes: the program's most votes at a place. -/
import Derived.Test.YtoogofceoinniabVpH
import Derived.Test.YtoogofceoinniabVpB
import Derived.Test.YtoogofceoinniabVpE
namespace Go.Proofs.Ytoogofceoinniab
open Go.ChangeShapes Go.WideShapes Go.ChangeAt Go.RowKit Go.ChangeMaps Go.Sort Go.Shelf
set_option linter.unusedSimpArgs false
set_option linter.unusedVariables false
set_option linter.unusedSimpArgs false
set_option linter.unusedVariables false

abbrev celB (o : GOrigin) (m : Int) : List Value := [.int .i64 o.pX, .int .i64 o.pY, .int .i64 o.pTick, .int .i64 m]
abbrev aggB (o : GOrigin) (m : Int) : Value := .agg #[.int .i64 o.pX, .int .i64 o.pY, .int .i64 o.pTick, .int .i64 m]
theorem Bx.puts {w : World} {b : Nat} {cs ds : List Value} (h : Bx w b cs) (hl : ds.length = cs.length) : Bx (putCells w b 0 ds 0) b ds := by
  refine ⟨⟨by rw [putCells_size]; exact h.1.1, fun i => by rw [putCells_frozen]; exact h.1.2 i⟩, fun i c hi => ?_⟩
  have := putCells_at b 0 ds w 0 (fun j hj => by
    obtain ⟨u, hu⟩ := get_of_lt (l := cs) (k := j) (by omega)
    have := h.2 j u hu
    rw [Nat.zero_add, Nat.zero_add, this]; rfl) i c hi
  rwa [Nat.zero_add, Nat.zero_add] at this
theorem Bx.putsOther {w : World} {b g : Nat} {cs : List Value} (h : Bx w b cs) (hg : g ≠ b) (ds : List Value) (ad : Nat) : Bx (putCells w g ad ds 0) b cs :=
  putCells_I (I := fun W => Bx W b cs) (fun W o u hi => hi.setOther hg u) ds w 0 h
set_option maxRecDepth 100000 in
set_option maxHeartbeats 4000000 in
theorem implMost (xs : List GArrival) (v : Value) (x y : Int) (p : GOrigin × Int) (w : World) (B : Nat) (h : ArrivalL w B v xs) (hB : B ≤ w.heap.size) (hok : okArs xs) (hx : 0 ≤ x ∧ x ≤ 999) (hy : 0 ≤ y ∧ y ≤ 999) (hp : topB xs x y = p) :
    Calls Try.prog 73 #[v, .int .i64 x, .int .i64 y] w fun e w' => e = .returned (aggB p.1 p.2) ∧ Below w.heap.size w w' := by
  have hl8 := hok.2
  obtain ⟨W0, hW0⟩ : ∃ W0, w.alloc (.cells #[.int .i64 0, .int .i64 0, .int .i64 0, .int .i64 0] 93) = W0 := ⟨_, rfl⟩
  have N0 : Below w.heap.size w W0 := hW0 ▸ (Below.refl w.heap.size w).alloc (Nat.le_refl _) _
  have bR : Bx W0 w.heap.size [.int .i64 0, .int .i64 0, .int .i64 0, .int .i64 0] := hW0 ▸ Bx.new w [.int .i64 0, .int .i64 0, .int .i64 0, .int .i64 0] 93
  have CS := Lib.hid (implSpans xs v x y W0 B (h.below (N0.mono hB)) (Nat.le_trans hB N0.size) hok hx hy)
  have HTM := Lib.hid (fun T hp hs => topS_most hok hx hy (T := T) hp hs)
  have HBD := Lib.hid (fun (T : List GSpan) (hp : T.Perm (spL xs x y)) s (hs : s ∈ T) => (spL_bd hok hx hy (hp.mem_iff.1 hs)))
  have HLN := Lib.hid (fun (T : List GSpan) (hp : T.Perm (spL xs x y)) => (Nat.le_trans (Nat.le_of_eq hp.length_eq) (spL_len xs x y)))
  have HP : Hid (balB x y (mostV xs x y xs.length) = p) := Lib.hid (by rw [← hp, topB_eq])
  obtain ⟨ao, cap, rfl⟩ := h.form
  clear h hok hp
  obtain ⟨hx0, hx1⟩ := hx
  obtain ⟨hy0, hy1⟩ := hy
  go_enter Try.func73, Try.ntmps73
  go_wp2_with fail
  clear hW0
  refine CS.out.mono ?_
  rintro e w1 ⟨v1, T, rfl, hown, hperm, hasc, hb⟩
  have N1 := N0.trans (hb.mono N0.size)
  have bR1 := bR.below hb
  have HPM := Lib.hid hperm
  have HAS := Lib.hid hasc
  have hTl : T.length ≤ 8 := Nat.le_trans (HLN.out T hperm) hl8
  have HTB := Lib.hid (HBD.out T hperm)
  have HTOP : Hid (balB x y (topS T T.length) = p) := Lib.hid (by rw [HTM.out T hperm hasc]; exact HP.out)
  obtain ⟨to, tcap, rfl, htc, htm, -, hc⟩ := hown
  unfold maxLen at htm
  have HC := Lib.hid hc
  have N2 := N1.alloc N1.size (.cells #[.int .i64 0, .int .i64 0, .int .i64 0, .int .i64 0] 93)
  have bR2 := bR1.alloc (.cells #[.int .i64 0, .int .i64 0, .int .i64 0, .int .i64 0] 93)
  have bB2 := Bx.new w1 [.int .i64 0, .int .i64 0, .int .i64 0, .int .i64 0] 93
  have hlt1 : w.heap.size < w1.heap.size := bR1.1.1
  clear hperm hasc hc hb N0 bR HTM HBD HLN HP
  go_wp2
  go_loopw [21] (fun i wr => ∃ (j : Nat) (ox oy ot n : Int), j ≤ T.length ∧ i = .int .i64 j ∧ Hid (balB x y (topS T j) = (⟨ox, oy, ot⟩, n)) ∧ Bx wr w.heap.size [.int .i64 0, .int .i64 0, .int .i64 0, .int .i64 0] ∧ Bx wr w1.heap.size [.int .i64 ox, .int .i64 oy, .int .i64 ot, .int .i64 n] ∧ Below w1.heap.size w1 wr)
    (fun i _ => T.length - (intOf i).toNat)
  case atStart => exact ⟨0, 0, 0, 0, 0, Nat.zero_le _, rfl, Lib.hid rfl, bR2, bB2, (Below.refl _ _).alloc (Nat.le_refl _) _⟩
  case round =>
    obtain ⟨j, ox, oy, ot, n, hj, rfl, HB, bR3, bB3, hbl⟩ := hrel
    clear bR2 bB2 N2 bR1
    have hsz := hbl.size
    have N3 := N1.trans (hbl.mono N1.size)
    have hnb := (topS_bd hTl (fun s hs => (HTB.out s hs).1) j hj).1
    have hn1 : n = (topS T j).1 := by
      have := balB_two x y (topS T j)
      rw [HB.out] at this
      exact this
    rw [← hn1] at hnb
    have HN1 := Lib.hid hn1
    clear hn1
    obtain ⟨hn0, hn8⟩ := hnb
    by_cases hlt : j < T.length
    case neg =>
      obtain rfl : j = T.length := by omega
      have HE : Hid ((⟨ox, oy, ot⟩, n) = p) := Lib.hid (by rw [← HTOP.out, HB.out])
      obtain ⟨⟨px, py, pt⟩, pn⟩ := p
      have e1 := HE.out
      simp only [Prod.mk.injEq, GOrigin.mk.injEq] at e1
      obtain ⟨⟨rfl, rfl, rfl⟩, rfl⟩ := e1
      have r0 := bR3.2 0 _ rfl
      have r1 := bR3.2 1 _ rfl
      have r2 := bR3.2 2 _ rfl
      have r3 := bR3.2 3 _ rfl
      have rf := bR3.1.2
      have b0 := bB3.2 0 _ rfl
      have b1 := bB3.2 1 _ rfl
      have b2 := bB3.2 2 _ rfl
      have b3 := bB3.2 3 _ rfl
      clear HE HB HN1
      go_wp2
      change bodyPost _ _ _ _ _ (putCells wr w.heap.size 0 [.int .i64 ox, .int .i64 oy, .int .i64 ot, .int .i64 n] 0)
      have bw := bR3.puts (ds := [.int .i64 ox, .int .i64 oy, .int .i64 ot, .int .i64 n]) rfl
      have BW := below_putCells N3 (b := w.heap.size) (Nat.le_refl _) 0 [.int .i64 ox, .int .i64 oy, .int .i64 ot, .int .i64 n] 0
      generalize putCells wr w.heap.size 0 [.int .i64 ox, .int .i64 oy, .int .i64 ot, .int .i64 n] 0 = wf at *
      have y0 := bw.2 0 _ rfl
      have y1 := bw.2 1 _ rfl
      have y2 := bw.2 2 _ rfl
      have y3 := bw.2 3 _ rfl
      exact bodyPost_ret (v := .agg #[.int .i64 ox, .int .i64 oy, .int .i64 ot, .int .i64 n]) (by simp [results, Try.results73, go_sem, y0, y1, y2, y3]) rfl ⟨rfl, BW⟩
    have hj0 : (0 : Int) ≤ (j : Int) := by omega
    have hj1 : (j : Int) < (T.length : Int) := by omega
    have hj2 : (j : Int) ≤ 8 := by omega
    obtain ⟨s, hs⟩ := get_of_lt hlt
    obtain ⟨b, off, rfl, -, hb, -, hcell, -⟩ := HC.out j s hs
    have c0 : wr.cell? ⟨b, off + j * 2, none⟩ = some (.int .i64 s.1) := cellOf hbl hb (hcell 0 _ rfl)
    have c1 : wr.cell? ⟨b, off + j * 2 + 1, none⟩ = some (.int .i64 s.2) := cellOf hbl hb (hcell 1 _ rfl)
    obtain ⟨⟨sb0, sb1⟩, -⟩ := HTB.out s (List.mem_of_getElem? hs)
    have HTS := Lib.hid (topS_succ hs)
    have cl := cntS_le T s.1
    obtain ⟨q, hq⟩ : ∃ q, cntS T s.1 = q := ⟨_, rfl⟩
    rw [hq] at cl
    have HQ := Lib.hid hq
    have HS := Lib.hid hs
    obtain ⟨l, g⟩ := s
    simp only at c0 c1 sb0 sb1 hq
    clear hs hcell hq
    obtain ⟨W5, hW5⟩ : ∃ W5, wr.alloc (.cells #[.int .i64 l, .int .i64 g] 88) = W5 := ⟨_, rfl⟩
    have A5 : Below wr.heap.size wr W5 := hW5 ▸ (Below.refl _ _).alloc (Nat.le_refl _) _
    have bS : Bx W5 wr.heap.size [.int .i64 l, .int .i64 g] := hW5 ▸ Bx.new wr [.int .i64 l, .int .i64 g] 88
    have N5 := hbl.trans (A5.mono hsz)
    have bR5 := bR3.below A5
    have bB5 := bB3.below A5
    have z5 := N5.size
    clear bR3 bB3 hbl A5
    go_wp2
    clear hW5
    go_loopw [11, 27] (fun a i wq => ∃ (k : Nat), k ≤ T.length ∧ i = .int .i64 k ∧ a = .int .i64 ((cntS (T.take k) l : Nat) : Int) ∧ Below W5.heap.size W5 wq)
      (fun _ i _ => T.length - (intOf i).toNat)
    case atStart => exact ⟨0, Nat.zero_le _, rfl, rfl, Below.refl _ _⟩
    case round =>
      obtain ⟨k, hk, rfl, rfl, hbq⟩ := hrel
      have hzq := hbq.size
      have N6 := N5.trans (hbq.mono z5)
      have bS6 := bS.below hbq
      have s0 := bS6.2 0 _ rfl
      have s1 := bS6.2 1 _ rfl
      by_cases hlt2 : k < T.length
      case neg =>
        obtain rfl : k = T.length := by omega
        have HQ2 : Hid (cntS (T.take T.length) l = q) := Lib.hid (by rw [List.take_length]; exact HQ.out)
        have bR6 := bR5.below hbq
        have bB6 := bB5.below hbq
        have b0 := bB6.2 0 _ rfl
        have b1 := bB6.2 1 _ rfl
        have b2 := bB6.2 2 _ rfl
        have b3 := bB6.2 3 _ rfl
        have bf := bB6.1.2
        rw [HQ2.out]
        by_cases hgt : n < (q : Int)
        case neg =>
          have HB2 : Hid (balB x y (topS T (j + 1)) = (⟨ox, oy, ot⟩, n)) := Lib.hid (by
            rw [HTS.out]; unfold stpS; rw [if_neg (by rw [← HN1.out, HQ.out]; exact hgt)]; exact HB.out)
          go_wp2
          go_roundw
          case rel => exact ⟨j + 1, ox, oy, ot, n, by omega, by go_num, HB2, bR6, bB6, N6⟩
          case measure => simp [intOf]; omega
        case pos =>
          have HB2 : Hid (balB x y (topS T (j + 1)) = (⟨x, y, l⟩, (q : Int))) := Lib.hid (by
            rw [HTS.out]; unfold stpS; rw [if_pos (by rw [← HN1.out, HQ.out]; exact hgt), HQ.out]; unfold balB; rw [if_neg (by show ¬ (q : Int) = 0; omega)])
          have bB7 := bB6.puts (ds := [.int .i64 x, .int .i64 y, .int .i64 l, .int .i64 (q : Int)]) rfl
          have bR7 := bR6.putsOther (g := w1.heap.size) (by omega) [.int .i64 x, .int .i64 y, .int .i64 l, .int .i64 (q : Int)] 0
          have N7 := below_putCells N6 (b := w1.heap.size) (Nat.le_refl _) 0 [.int .i64 x, .int .i64 y, .int .i64 l, .int .i64 (q : Int)] 0
          go_wp2
          go_roundw
          case rel => exact ⟨j + 1, x, y, l, (q : Int), by omega, by go_num, HB2, bR7, bB7, N7⟩
          case measure => simp [intOf]; omega
      have hk0 : (0 : Int) ≤ (k : Int) := by omega
      have hk1 : (k : Int) < (T.length : Int) := by omega
      have hk2 : (k : Int) ≤ 8 := by omega
      obtain ⟨r, hr⟩ := get_of_lt hlt2
      obtain ⟨b', off', e, -, hb', -, hcell', -⟩ := HC.out k r hr
      simp only [Option.some.injEq, Addr.mk.injEq, and_true] at e
      obtain ⟨rfl, rfl⟩ := e
      have c0 : wr.cell? ⟨b, off + k * 2, none⟩ = some (.int .i64 r.1) := cellOf N6 hb' (hcell' 0 _ rfl)
      have c1 : wr.cell? ⟨b, off + k * 2 + 1, none⟩ = some (.int .i64 r.2) := cellOf N6 hb' (hcell' 1 _ rfl)
      have HCT := Lib.hid (cnt_take hr l)
      have hct := cntS_le (T.take k) l
      rw [List.length_take] at hct
      generalize cntS (T.take k) l = m at *
      obtain ⟨r1, r2⟩ := r
      simp only at c0 c1
      obtain ⟨u, hu⟩ : ∃ u, decide (r1 ≤ l ∧ l ≤ r2) = u := ⟨_, rfl⟩
      have CH := Lib.hid (fun W => spanHas r1 r2 l u W hu)
      have HU : Hid (inS (r1, r2) l = u) := Lib.hid hu
      clear hr hcell' hu
      obtain ⟨W7, hW7⟩ : ∃ W7, wr.alloc (.cells #[.int .i64 r1, .int .i64 r2] 88) = W7 := ⟨_, rfl⟩
      have A7 : Below wr.heap.size wr W7 := hW7 ▸ (Below.refl _ _).alloc (Nat.le_refl _) _
      have bO : Bx W7 wr.heap.size [.int .i64 r1, .int .i64 r2] := hW7 ▸ Bx.new wr [.int .i64 r1, .int .i64 r2] 88
      have bS7 := bS6.below A7
      have N7 := hbq.trans (A7.mono hzq)
      have z7 := N7.size
      clear s0 s1
      have s0 := bS7.2 0 _ rfl
      have t0 := bO.2 0 _ rfl
      have t1 := bO.2 1 _ rfl
      go_wp2_with fail
      clear hW7
      refine (CH.out _).mono ?_
      rintro e w8 ⟨rfl, hb8⟩
      have N8 := N7.trans (hb8.mono z7)
      clear s0 t0 t1 bO bS7 N7 A7 hb8
      cases u with
      | false =>
        have HC2 : Hid (m = cntS (T.take (k + 1)) l) := Lib.hid (by rw [HCT.out, HU.out]; rfl)
        go_wp2
        go_roundw
        case rel => exact ⟨k + 1, by omega, by go_num, by rw [← HC2.out], N8⟩
        case measure => simp [intOf]; omega
      | true =>
        have HC2 : Hid (m + 1 = cntS (T.take (k + 1)) l) := Lib.hid (by rw [HCT.out, HU.out]; rfl)
        go_wp2
        go_roundw
        case rel => exact ⟨k + 1, by omega, by go_num, by rw [← HC2.out]; go_num, N8⟩
        case measure => simp [intOf]; omega
end Go.Proofs.Ytoogofceoinniab
