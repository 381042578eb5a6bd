/- The specification's ParseTrace: contract. -/
import Derived.Test.YtedngmnjpkhbiaaDoorPtP
import Derived.Deep.AppendLies
import Derived.Deep.RegionLaw
import Derived.StillTailTactics
namespace Go.Proofs.YtedngmnjpkhbiaaDoor
open Go.ChangeShapes Go.WideShapes Go.ChangeAt Go.RowKit Go.ChangeMaps
set_option linter.unusedSimpArgs false
set_option linter.unusedVariables false

theorem Own.nilP {α : Type} {en : α → Value} (w : World) (L B : Nat) : Own en w L B (.slice none 0 0) [] := ⟨none, 0, rfl, by simp, by simp [maxLen], fun _ => rfl, fun i x hi => by simp at hi⟩
theorem ownsRow_setOtherP {w : World} {base size n : Nat} {e : TypeId} {v : Value} {xs : List Value} (h : w.ownsRow base e size v n xs) {a : Addr} (ha : ∀ g, v.ownBlock = some g → a.block ≠ g) (u : Value) : (w.setCell a u).ownsRow base e size v n xs := by
  refine ⟨h.1, ?_⟩
  rcases h.2 with h0 | ⟨g, cap, cur, hv, hg, hh, r⟩
  · exact Or.inl h0
  · refine Or.inr ⟨g, cap, cur, hv, hg, ?_, r⟩
    rw [Below.heap_setCell w a u g (by have := ha g (by rw [hv]; rfl); omega)]
    exact hh
theorem row_lstP {w : World} {L e n : Nat} {v : Value} {xs : List Int} (h : w.ownsRow L e 1 v n (xs.map (Value.int .i64))) : Lst (Value.int .i64) w w.heap.size v xs := (Own.of_row h).lst

theorem split32 (s : ByteArray) (w : World) (hs : s.size ≤ 1048576) :
    Calls Tryd.prog 36 #[.string s, .int .u8 32] w fun e w' => ∃ v, e = .returned v ∧ w'.ownsRow w.heap.size 9 1 v (split s 32).length ((split s 32).map Value.string) ∧ Below w.heap.size w w' := l1Split_any s 32 w hs
theorem split64 (s : ByteArray) (w : World) (hs : s.size ≤ 1048576) :
    Calls Tryd.prog 36 #[.string s, .int .u8 64] w fun e w' => ∃ v, e = .returned v ∧ w'.ownsRow w.heap.size 9 1 v (split s 64).length ((split s 64).map Value.string) ∧ Below w.heap.size w w' := l1Split_any s 64 w hs
theorem ext_size {s : ByteArray} {a b : Nat} : (s.extract a b).size ≤ s.size := by rw [ByteArray.size_extract]; omega
theorem scan_size (c : UInt8) (s : ByteArray) : ∀ k, ∀ x ∈ (scan c s k).1, x.size ≤ s.size := by
  intro k
  induction k with
  | zero => intro x hx; cases hx
  | succ k ih =>
    intro x hx
    by_cases h : s.data.toList[k]? = some c
    · rw [scan_hit h] at hx
      rcases List.mem_append.1 hx with h1 | h1
      · exact ih x h1
      · rw [List.mem_singleton.1 h1]; exact ext_size
    · rw [scan_miss h] at hx; exact ih x hx
theorem split_size {c : UInt8} {s x : ByteArray} (h : x ∈ split s c) : x.size ≤ s.size := by
  unfold split at h
  rcases List.mem_append.1 h with h1 | h1
  · exact scan_size c s _ x h1
  · rw [List.mem_singleton.1 h1]; exact ext_size

set_option maxRecDepth 100000 in
set_option maxHeartbeats 1000000 in
theorem specPT (s : ByteArray) (w : World) (hs : s.size ≤ 1048576) :
    Calls Tryd.prog 14 #[.string s] w fun e w' => ∃ v, e = .returned (.tuple #[v, .bool (okPT s)]) ∧ TrO w' w.heap.size w'.heap.size v (resPT s) ∧ Below w.heap.size w w' := by
  have N0 := (Below.refl w.heap.size w).alloc (Nat.le_refl _) (.cells #[.int .i64 0, .int .i64 0, .slice none 0 0] 26)
  have d0 := Bx.new w [.int .i64 0, .int .i64 0, .slice none 0 0] 26
  by_cases h220 : s.size ≤ 220
  case neg =>
    have e1 : okPT s = false := by unfold okPT; simp [h220]
    rw [resPT_no e1, e1]
    have x0 := d0.2 0 _ rfl
    have x1 := d0.2 1 _ rfl
    have x2 := d0.2 2 _ rfl
    have hi : (220 : Int) < (s.size : Int) := by omega
    clear e1 h220
    go_enter Tryd.func14, Tryd.ntmps14
    go_wp2
    refine bodyPost_ret (v := .tuple #[.agg #[.int .i64 0, .int .i64 0, .slice none 0 0], .bool false]) (by simp [results, Tryd.results14, go_sem, x0, x1, x2]) rfl ⟨_, rfl, ⟨_, rfl, Own.nilP _ _ _⟩, ?_⟩
    exact N0
  have hi : ¬ (220 : Int) < (s.size : Int) := by omega
  obtain ⟨n1, n2⟩ := split_len s 32
  obtain ⟨a, ha⟩ := get_of_lt (l := split s 32) (k := 0) n1
  have haz := split_size (List.mem_of_getElem? ha)
  obtain ⟨m1, m2⟩ := split_len a 64
  have hhd : hdP s = split a 64 := by
    unfold hdP
    cases hsp : split s 32 with
    | nil => rw [hsp] at ha; cases ha
    | cons y r => rw [hsp] at ha; cases ha; rfl
  obtain ⟨q, hq⟩ := get_of_lt (l := split a 64) (k := 0) m1
  have hqz := split_size (List.mem_of_getElem? hq)
  have HOKD : Hid (okPT s = (decide ((split a 64).length = 2) && (decide (0 < (h1P s).size) && (goodT (spT s) && decide (textT (spT s) = s))))) := Lib.hid (by unfold okPT; rw [decide_eq_true h220, hhd]; exact Bool.true_and _)
  have H1P : Hid (h1P s = (split a 64).getD 1 .empty) := Lib.hid (by unfold h1P; rw [hhd])
  have H0P : Hid (h0P s = q) := Lib.hid (by unfold h0P; rw [hhd, List.getD, hq]; rfl)
  have HSPT : Hid (spT s = ⟨resP (h0P s), rd2 ((h1P s).extract 0 ((h1P s).size - 1)), (split s 32).tail.map resP⟩) := Lib.hid rfl
  have HWZ : Hid (∀ x ∈ split s 32, x.size ≤ 220) := Lib.hid (fun x hx => Nat.le_trans (split_size hx) h220)
  have HHZ : Hid (∀ x ∈ split a 64, x.size ≤ 220) := Lib.hid (fun x hx => Nat.le_trans (split_size hx) (by omega))
  have C1 := Lib.hid (fun w => split32 s w hs)
  have C2 := Lib.hid (fun w => split64 a w (by omega))
  have HRES : Hid (okPT s = true → resPT s = spT s) := Lib.hid resPT_yes
  have HREN : Hid (okPT s = false → resPT s = nilT) := Lib.hid resPT_no
  clear hhd hs
  generalize split s 32 = ws at *
  generalize split a 64 = hd at *
  generalize okPT s = ok at *
  generalize resPT s = res at *
  have HA := Lib.hid ha
  have HQ := Lib.hid hq
  clear ha hq
  go_enter Tryd.func14, Tryd.ntmps14
  go_wp2_with fail
  refine (C1.out _).mono ?_
  rintro e w1 ⟨v1, rfl, r1, hb1⟩
  have B1 := N0.trans (hb1.mono N0.size)
  have d1 := d0.below hb1
  obtain ⟨ao1, cap1, rfl⟩ := row_form r1
  have l1 := (Own.of_row r1).lst
  obtain ⟨_, _, hv1, hcap1, hmax1, -, hc1⟩ := l1
  simp only [Value.slice.injEq] at hv1
  obtain ⟨rfl, _, rfl⟩ := hv1
  obtain ⟨b1, off1, rfl, hb1', hcx1⟩ := hc1 0 a HA.out
  rw [Nat.add_zero] at hcx1
  have x0 := d1.2 0 _ rfl
  have x1 := d1.2 1 _ rfl
  have x2 := d1.2 2 _ rfl
  have x3 := d1.1.2
  go_wp2_with fail
  refine (C2.out _).mono ?_
  rintro e w2 ⟨v2, rfl, r2, hb2⟩
  have B2 := B1.trans (hb2.mono B1.size)
  have d2 := d1.below hb2
  obtain ⟨ao2, cap2, rfl⟩ := row_form r2
  have l2 := (Own.of_row r2).lst
  obtain ⟨_, _, hv2, hcap2, hmax2, -, hc2⟩ := l2
  simp only [Value.slice.injEq] at hv2
  obtain ⟨rfl, _, rfl⟩ := hv2
  obtain ⟨b2, off2, rfl, hb2', hcx2⟩ := hc2 0 q HQ.out
  rw [Nat.add_zero] at hcx2
  clear x0 x1 x2 x3
  have x0 := d2.2 0 _ rfl
  have x1 := d2.2 1 _ rfl
  have x2 := d2.2 2 _ rfl
  have x3 := d2.1.2
  by_cases hm : hd.length = 2
  case neg =>
    have HO : Hid (ok = false) := Lib.hid (by rw [HOKD.out, decide_eq_false hm]; rfl)
    have hmi : ((hd.length : Int) != 2) = true := by simp; omega
    go_wp2
    refine bodyPost_ret (v := .tuple #[.agg #[.int .i64 0, .int .i64 0, .slice none 0 0], .bool false]) (by simp [results, Tryd.results14, go_sem, x0, x1, x2]) rfl ?_
    rw [HREN.out HO.out, HO.out]
    refine ⟨_, rfl, ⟨_, rfl, Own.nilP _ _ _⟩, ?_⟩
    exact ((B2.setCell (p := ⟨w.heap.size, 0, none⟩) (Nat.le_refl _) _).setCell (p := ⟨w.heap.size, 1, none⟩) (Nat.le_refl _) _).setCell (p := ⟨w.heap.size, 2, none⟩) (Nat.le_refl _) _
  obtain ⟨g, hg⟩ := get_of_lt (l := hd) (k := 1) (by omega)
  have HG1 : Hid (h1P s = g) := Lib.hid (by rw [H1P.out, List.getD, hg]; rfl)
  have hgz : g.size ≤ 220 := by
    have := HHZ.out g (List.mem_of_getElem? hg)
    omega
  have hmi : ((hd.length : Int) != 2) = false := by simp [hm]
  have m2' : 1 < hd.length := by omega
  have m2i : (1 : Int) < (hd.length : Int) := by omega
  obtain ⟨b2', off2', hbb, _, hcy2⟩ := hc2 1 g hg
  simp only [Option.some.injEq, Addr.mk.injEq, and_true] at hbb
  obtain ⟨rfl, rfl⟩ := hbb
  by_cases hgs : 0 < g.size
  case neg =>
    have hg0 : (g.size : Int) = 0 := by omega
    have HO : Hid (ok = false) := Lib.hid (by rw [HOKD.out, HG1.out, decide_eq_false hgs]; simp)
    clear hg
    go_wp2
    refine bodyPost_ret (v := .tuple #[.agg #[.int .i64 0, .int .i64 0, .slice none 0 0], .bool false]) (by simp [results, Tryd.results14, go_sem, x0, x1, x2]) rfl ?_
    rw [HREN.out HO.out, HO.out]
    refine ⟨_, rfl, ⟨_, rfl, Own.nilP _ _ _⟩, ?_⟩
    exact ((B2.setCell (p := ⟨w.heap.size, 0, none⟩) (Nat.le_refl _) _).setCell (p := ⟨w.heap.size, 1, none⟩) (Nat.le_refl _) _).setCell (p := ⟨w.heap.size, 2, none⟩) (Nat.le_refl _) _
  have hg0 : ¬ (g.size : Int) = 0 := by omega
  have hg1 : 1 ≤ g.size := hgs
  have R0 : Hid (∀ w, Calls Tryd.prog 37 #[.string q] w fun e w' => e = .returned (.tuple #[.int .i64 (resP q), .bool (okP q)]) ∧ ∃ m, w' = w.drewN m) := Lib.hid (fun w => l1Read_any q w (by omega))
  have HSP : Hid (spT s = ⟨resP q, rd2 (g.extract 0 (g.size - 1)), ws.tail.map resP⟩) := Lib.hid (by rw [HSPT.out, H0P.out, HG1.out])
  have R1 : Hid (∀ (w : World) (m : Nat), Calls Tryd.prog 38 #[.string (g.extract 0 (g.size - 1))] (w.drewN m) fun e w' => e = .returned (.int .i64 (rd2 (g.extract 0 (g.size - 1)))) ∧ w' = w.drewN m) := Lib.hid (fun w m => (l2Read_any _ _ (by have := ext_size (s := g) (a := 0) (b := g.size - 1); omega)).mono fun e w' ⟨h1, h2⟩ => ⟨h1, h2.symm⟩)
  generalize rd2 (g.extract 0 (g.size - 1)) = sta at *
  generalize resP q = st at *
  generalize okP q = stb at *
  clear hg
  go_wp2_with fail
  refine (R0.out _).mono ?_
  rintro e w3' ⟨rfl, m, rfl⟩
  obtain ⟨ti, hti, hz0, hz1, hz2⟩ := info_parts infoInt
  have hrow1 := World.ownsRow_made (base := w2.heap.size) (e := 3) (size := 1) w2 #[] 0 (Nat.le_refl _) (by simp [maxLen]) rfl
  have hrow2 := hrow1.alloc (.cells #[.int .i64 0, .int .i64 0, .slice (some ⟨w2.heap.size, 0, none⟩) 0 0] 26)
  have c2 := Bx.new1 w2 (.cells #[] 3) [.int .i64 0, .int .i64 0, .slice (some ⟨w2.heap.size, 0, none⟩) 0 0] 26
  have N2 := ((Below.refl w2.heap.size w2).alloc (Nat.le_refl _) (.cells #[] 3)).alloc (by simp) (.cells #[.int .i64 0, .int .i64 0, .slice (some ⟨w2.heap.size, 0, none⟩) 0 0] 26)
  generalize (w2.alloc (.cells #[] 3)).alloc (.cells #[.int .i64 0, .int .i64 0, .slice (some ⟨w2.heap.size, 0, none⟩) 0 0] 26) = w3 at *
  have N3 := drewN_b N2 m
  have c3 := c2.drewN m
  have hrow3 : (w3.drewN m).ownsRow w2.heap.size 3 1 (.slice (some ⟨w2.heap.size, 0, none⟩) 0 0) 0 [] := hrow2
  have zN : w2.heap.size + 1 < w3.heap.size := c2.1.1
  clear N2 c2 hrow1 hrow2
  have p0 := c3.2 0 _ rfl
  have p3 := c3.1.2
  go_wp2
  obtain ⟨w4, hw4⟩ : ∃ w4, (w3.drewN m).setCell ⟨w2.heap.size + 1, 0, none⟩ (.int .i64 st) = w4 := ⟨_, rfl⟩
  have c4 : Bx w4 (w2.heap.size + 1) [.int .i64 st, .int .i64 0, .slice (some ⟨w2.heap.size, 0, none⟩) 0 0] := hw4 ▸ c3.set0 _
  have N4 : Below w2.heap.size w2 w4 := hw4 ▸ N3.setCell (p := ⟨w2.heap.size + 1, 0, none⟩) (Nat.le_succ _) _
  have hrow4 : w4.ownsRow w2.heap.size 3 1 (.slice (some ⟨w2.heap.size, 0, none⟩) 0 0) 0 [] := hw4 ▸ ownsRow_setOtherP hrow3 (by intro g9 hg9; simp only [Value.ownBlock, Option.some.injEq] at hg9; show w2.heap.size + 1 ≠ g9; omega) _
  rw [hw4]
  have hcy4 := cellOf N4 (by assumption) hcy2
  have hcy5 : ({ w4 with drawn := w4.drawn + 1 } : World).cell? ⟨b2, off2 + 1, none⟩ = some (.string g) := hcy4
  have e48 : ((g.size : Int) - 1).toNat = g.size - 1 := by omega
  have i48 : (0 : Int) ≤ (g.size : Int) - 1 := by omega
  have j48 : (g.size : Int) - 1 ≤ (g.size : Int) := by omega
  have k48 : g.size - 1 ≤ g.size := by omega
  have i49 : (1 : Int) ≤ (g.size : Int) := by omega
  have s48 : IntKind.i64.wrap ((g.size : Int) - 1) = (g.size : Int) - 1 := IntWalk.i64_in _ (by omega)
  clear hw4 c3 N3 hrow3 p0 p3
  go_still_tail 11, (by kernel_rfl)
  still_call (R1.out w4 1)
  repeat still_step
  refine wpStill_nil ?_
  change wpList _ _ _ _ _ (w4.drewN 1)
  have c5 : Bx (w4.drewN 1) (w2.heap.size + 1) [.int .i64 st, .int .i64 0, .slice (some ⟨w2.heap.size, 0, none⟩) 0 0] := c4
  have hrow5 : (w4.drewN 1).ownsRow w2.heap.size 3 1 (.slice (some ⟨w2.heap.size, 0, none⟩) 0 0) 0 [] := hrow4
  have N5 := drewN_b N4 1
  clear c4 hrow4 N4 hcy4 hcy5
  generalize w4.drewN 1 = w5 at *
  have p1 := c5.2 1 _ rfl
  have p3 := c5.1.2
  go_wp2
  obtain ⟨w6, hw6⟩ : ∃ w6, w5.setCell ⟨w2.heap.size + 1, 1, none⟩ (.int .i64 sta) = w6 := ⟨_, rfl⟩
  have c6 : Bx w6 (w2.heap.size + 1) [.int .i64 st, .int .i64 sta, .slice (some ⟨w2.heap.size, 0, none⟩) 0 0] := hw6 ▸ c5.set1 _
  have N6 : Below w2.heap.size w2 w6 := hw6 ▸ N5.setCell (p := ⟨w2.heap.size + 1, 1, none⟩) (Nat.le_succ _) _
  have hrow6 : w6.ownsRow w2.heap.size 3 1 (.slice (some ⟨w2.heap.size, 0, none⟩) 0 0) 0 [] := hw6 ▸ ownsRow_setOtherP hrow5 (by intro g9 hg9; simp only [Value.ownBlock, Option.some.injEq] at hg9; show w2.heap.size + 1 ≠ g9; omega) _
  rw [hw6]
  clear hw6 c5 N5 hrow5 p1 p3 R0 R1 C1 C2 hcy2 hcx2 hc2 r2 x0 x1 x2 x3
  have HC1 := Lib.hid hc1
  have HD2 := Lib.hid d2
  have HB2 := Lib.hid B2
  clear hc1 hcx1 r1 d1 B1 d2 B2
  obtain ⟨ys, hys⟩ : ∃ ys, ws.tail.map resP = ys := ⟨_, rfl⟩
  have HYL : Hid (ys.length + 1 = ws.length) := Lib.hid (by rw [← hys, List.length_map, List.length_tail]; omega)
  have HYG : Hid (∀ j x, ws[j + 1]? = some x → ys[j]? = some (resP x)) := Lib.hid (fun j x hx => by rw [← hys, List.getElem?_map, List.getElem?_tail, hx]; rfl)
  have hys2 := HSP.out
  rw [hys] at hys2
  have HSP2 := Lib.hid hys2
  clear hys hys2 HSP
  go_loopw [7] (fun i wr => ∃ (j : Nat) (ao3 : Option Addr) (cap3 : Nat), j + 1 ≤ ws.length ∧ i = .int .i64 ((j : Int) + 1) ∧ wr.ownsRow w2.heap.size 3 1 (.slice ao3 j cap3) j ((ys.take j).map (Value.int .i64)) ∧ Bx wr (w2.heap.size + 1) [.int .i64 st, .int .i64 sta, .slice ao3 j cap3] ∧ Hid (¬ (Value.slice ao3 j cap3).ownBlock = some (w2.heap.size + 1)) ∧ Below w2.heap.size w2 wr) (fun i _ => ws.length - (intOf i).toNat)
  case atStart => exact ⟨0, some ⟨w2.heap.size, 0, none⟩, 0, by omega, rfl, hrow6, c6, Lib.hid (by simp [Value.ownBlock]), N6⟩
  case round =>
    obtain ⟨j, ao3, cap3, hj, rfl, hrow, c4, HNB, hbl⟩ := hrel
    by_cases hlt : j + 1 < ws.length
    · obtain ⟨x, hx⟩ := get_of_lt hlt
      obtain ⟨b9, off9, hbb, hblt, hcx⟩ := HC1.out (j + 1) x hx
      simp only [Option.some.injEq, Addr.mk.injEq, and_true] at hbb
      obtain ⟨rfl, rfl⟩ := hbb
      have hcx2 := cellOf hb2 hblt hcx
      have hcx3 := cellOf hbl (by have := hb2.size; omega) hcx2
      have hxz := HWZ.out x (List.mem_of_getElem? hx)
      have R2 := Lib.hid (fun w => l1Read_any x w (by omega))
      have HT := Lib.hid (take_snoc (HYG.out j x hx))
      have HYK := Lib.hid (show ((ys.take j).map (Value.int .i64)).length = j by rw [List.length_map, List.length_take]; have := HYL.out; omega)
      have hi0 : (0 : Int) ≤ (j : Int) + 1 := by omega
      have hi1 : (j : Int) + 1 < (ws.length : Int) := by omega
      have tn : ((j : Int) + 1).toNat = j + 1 := by omega
      have hj9 : j ≤ 300 := by omega
      clear hx hcx hcx2
      generalize resP x = rx at *
      generalize okP x = ro at *
      go_wp2_with fail
      refine (R2.out _).mono ?_
      rintro e w7 ⟨rfl, m7, rfl⟩
      have c7 := c4.drewN m7
      have hrow7 : (wr.drewN m7).ownsRow w2.heap.size 3 1 (.slice ao3 j cap3) j ((ys.take j).map (Value.int .i64)) := hrow
      have hb7 := drewN_b hbl m7
      clear hrow c4 hbl hcx3
      generalize wr.drewN m7 = w8 at *
      have p2 := c7.2 2 _ rfl
      have p3 := c7.1.2
      have zc := c7.1.1
      have zr := hb7.size
      have HMM : Hid ((ys.take j).map (Value.int .i64) ++ [Value.int .i64 rx] = (ys.take (j + 1)).map (Value.int .i64)) := Lib.hid (by rw [HT.out]; simp)
      generalize (ys.take j).map (Value.int .i64) = il at *
      go_wp2_with (at_builtin; refine wpList_append_lies _ rfl _ _ 24 rfl w2.heap.size 3 ti (.int .i64 0) 1 8 Tryd.underlying24 hti hz0 hz1 hz2 rfl (by decide) _ j il rfl (hrow7.alloc _) ⟨w8.heap.size, 0, none⟩ 1 1 [.int .i64 rx] rfl rfl (cell_one_new _ _ _) (by simp [Value.oneCell']) (by omega) (by unfold maxLen; omega) (by omega) (by simp; omega) (w8.heap.size + 1) (by simp) ?_; intro gg capg w9 hown9 hgrow9 hat9 hlt9; have c9 := (c7.alloc _).grown hgrow9 (fun e => HNB.out e.symm); have u0 := c9.2 0 _ rfl; have u1 := c9.2 1 _ rfl; have u2 := c9.2 2 _ rfl; have u3 := c9.1.2)
      have hat2 := hat9
      have HOWN := Lib.hid hown9
      have HLT := Lib.hid hlt9
      clear hat9 hown9 hlt9
      go_roundw
      case rel =>
        have hb9 : Below w2.heap.size w8 w9 := ((Below.refl w2.heap.size w8).alloc zr _).grown hgrow9 (by simp; omega) (fun g e => (hrow7.lt g e).1)
        refine ⟨j + 1, some ⟨gg, 0, none⟩, capg, by omega, by go_num, ?_, c9.set3 _, ?_, (hb7.trans hb9).setCell (p := ⟨w2.heap.size + 1, 2, none⟩) (by simp) _⟩
        · rw [← HMM.out]
          refine ownsRow_setOtherP HOWN.out ?_ _
          intro g eg
          cases eg
          rcases hat2 with h9 | h9
          · exact fun e9 => HNB.out (h9.trans (congrArg some e9.symm))
          · simp only
            omega
        · refine Lib.hid ?_
          simp only [Value.ownBlock, Option.some.injEq]
          rcases hat2 with h9 | h9
          · exact fun e9 => HNB.out (by rw [← e9]; exact h9)
          · omega
      case measure => simp [intOf]; omega
    · have hlt2 : ¬ (j : Int) + 1 < (ws.length : Int) := by omega
      have hyj : ys.length = j := by have := HYL.out; omega
      have hty : ys.take j = ys := by rw [← hyj]; exact List.take_length
      rw [hty] at hrow
      have hj9 : ys.length ≤ 1048576 := by omega
      have hl4 : Lst (Value.int .i64) wr wr.heap.size (.slice ao3 j cap3) ys := row_lstP hrow
      have own4 : Own (Value.int .i64) wr w2.heap.size wr.heap.size (.slice ao3 j cap3) ys := Own.of_row hrow
      have zd := HD2.out.1.1
      have zr := hbl.size
      have zB := HB2.out.size
      have d4 := HD2.out.block (hbl.block _ zd) hbl.size
      have B4 := HB2.out.trans (hbl.mono zB)
      have HT4 : Hid (TrL wr wr.heap.size (.agg #[.int .i64 st, .int .i64 sta, .slice ao3 j cap3]) ⟨st, sta, ys⟩) := Lib.hid ⟨_, rfl, hl4⟩
      have p0 := c4.2 0 _ rfl
      have p1 := c4.2 1 _ rfl
      have p2 := c4.2 2 _ rfl
      clear hyj hty hl4 HD2 HB2 hrow
      cases hgt : goodT ⟨st, sta, ys⟩ with
      | false =>
        have HO : Hid (ok = false) := Lib.hid (by rw [HOKD.out, HSP2.out, hgt]; simp)
        have HC := Lib.hid (specGoodB ⟨st, sta, ys⟩ _ wr wr.heap.size false HT4.out (Nat.le_refl _) hgt)
        clear hgt
        go_wp2_with fail
        refine HC.out.mono ?_
        rintro e w9 ⟨rfl, hb9⟩
        have d9 := d4.below hb9
        have B9 := B4.trans (hb9.mono B4.size)
        have x0 := d9.2 0 _ rfl
        have x1 := d9.2 1 _ rfl
        have x2 := d9.2 2 _ rfl
        have x3 := d9.1.2
        go_wp2
        refine bodyPost_ret (v := .tuple #[.agg #[.int .i64 0, .int .i64 0, .slice none 0 0], .bool false]) (by simp [results, Tryd.results14, go_sem, x0, x1, x2]) rfl ?_
        rw [HREN.out HO.out, HO.out]
        refine ⟨_, rfl, ⟨_, rfl, Own.nilP _ _ _⟩, ?_⟩
        exact ((B9.setCell (p := ⟨w.heap.size, 0, none⟩) (Nat.le_refl _) _).setCell (p := ⟨w.heap.size, 1, none⟩) (Nat.le_refl _) _).setCell (p := ⟨w.heap.size, 2, none⟩) (Nat.le_refl _) _
      | true =>
        have HC := Lib.hid (specGoodB ⟨st, sta, ys⟩ _ wr wr.heap.size true HT4.out (Nat.le_refl _) hgt)
        have HGT := Lib.hid hgt
        clear hgt
        go_wp2_with fail
        refine HC.out.mono ?_
        rintro e w9 ⟨rfl, hb9⟩
        have c9 := c4.below hb9
        have q0 := c9.2 0 _ rfl
        have q1 := c9.2 1 _ rfl
        have q2 := c9.2 2 _ rfl
        have z9 := hb9.size
        go_wp2_with fail
        refine (specText ⟨st, sta, ys⟩ _ w9 wr.heap.size (HT4.out.below hb9) z9 HGT.out).mono ?_
        rintro e wa ⟨rfl, hba⟩
        have hb10 := hb9.trans (hba.mono z9)
        have d9 := d4.below hb10
        have B9 := B4.trans (hb10.mono B4.size)
        have c10 := c4.below hb10
        have own10 := own4.below hb10
        have zz := hb10.size
        have x0 := d9.2 0 _ rfl
        have x1 := d9.2 1 _ rfl
        have x2 := d9.2 2 _ rfl
        have x3 := d9.1.2
        have y0 := c10.2 0 _ rfl
        have y1 := c10.2 1 _ rfl
        have y2 := c10.2 2 _ rfl
        clear q0 q1 q2 p0 p1 p2
        by_cases htx : textT ⟨st, sta, ys⟩ = s
        · have HO : Hid (ok = true) := Lib.hid (by rw [HOKD.out, HSP2.out, HGT.out, decide_eq_true htx, decide_eq_true hm, HG1.out, decide_eq_true hgs]; rfl)
          have HR : Hid (res = ⟨st, sta, ys⟩) := Lib.hid ((HRES.out HO.out).trans HSP2.out)
          rw [htx]
          go_wp2
          refine bodyPost_ret (v := .tuple #[.agg #[.int .i64 st, .int .i64 sta, .slice ao3 j cap3], .bool true]) (by simp [results, Tryd.results14, go_sem, x0, x1, x2]) rfl ?_
          rw [HR.out, HO.out]
          refine ⟨_, rfl, ⟨_, rfl, ?_⟩, ?_⟩
          · exact (((own10.setLow (by simp; omega) _).setLow (by simp; omega) _).setLow (by simp; omega) _).mono (by omega) (by simp; omega)
          · exact ((B9.setCell (p := ⟨w.heap.size, 0, none⟩) (Nat.le_refl _) _).setCell (p := ⟨w.heap.size, 1, none⟩) (Nat.le_refl _) _).setCell (p := ⟨w.heap.size, 2, none⟩) (Nat.le_refl _) _
        · have HO : Hid (ok = false) := Lib.hid (by rw [HOKD.out, HSP2.out, decide_eq_false htx]; simp)
          have hne := str_ne htx
          clear htx
          go_wp2
          refine bodyPost_ret (v := .tuple #[.agg #[.int .i64 0, .int .i64 0, .slice none 0 0], .bool false]) (by simp [results, Tryd.results14, go_sem, x0, x1, x2]) rfl ?_
          rw [HREN.out HO.out, HO.out]
          refine ⟨_, rfl, ⟨_, rfl, Own.nilP _ _ _⟩, ?_⟩
          exact ((B9.setCell (p := ⟨w.heap.size, 0, none⟩) (Nat.le_refl _) _).setCell (p := ⟨w.heap.size, 1, none⟩) (Nat.le_refl _) _).setCell (p := ⟨w.heap.size, 2, none⟩) (Nat.le_refl _) _
end Go.Proofs.YtedngmnjpkhbiaaDoor
