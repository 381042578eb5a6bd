/- The specification's draws of lists of stations. -/
import Derived.Test.YtklilfbokpljkabDrP
import Derived.Test.YtklilfbokpljkabStaL
import Derived.Test.YtklilfbokpljkabIns
namespace Go.Proofs.Ytklilfbokpljkab
open Go.ChangeShapes Go.WideShapes Go.ChangeAt Go.RowKit Go.ChangeMaps
set_option linter.unusedSimpArgs false
set_option linter.unusedVariables false

theorem row_whole {w : World} {base size n : Nat} {e : TypeId} {g cap : Nat} {xs : List Value} (h : w.ownsRow base e size (.slice (some ⟨g, 0, none⟩) n cap) n xs) (h1 : ∀ u ∈ xs, u.oneCell' = true) (c : Nat) :
    SrcK w size (.slice (some ⟨g, 0, none⟩) n c) n xs :=
  ⟨_, _, rfl, h.1, fun q u hu => h.cells (g := g) rfl _ _ hu, h1⟩
theorem info_StationP : (Try.prog.info? 60).map (fun i => (i.zero, i.size, i.bytes)) = some (some (.agg #[.int .i64 0, .string .empty, .int .i64 0, .int .i64 0, .int .i64 0, .int .i64 0, .int .i64 0, .int .i64 0]), 8, 72) := by kernel_rfl
/-- A list of stations that grows beside the cursor. -/
structure Stn (w0 w : World) (B b k : Nat) (v : Value) (xs : List GStation) : Prop where
  form : ∃ g cap, v = .slice (some ⟨g, 0, none⟩) xs.length cap
  row : w.ownsRow w0.heap.size 60 8 v xs.length (xs.flatMap encStation)
  bd : ∀ s ∈ xs, BdS s
  cur : Cur w B b k
  gr : w0.grownBy w (some b)
theorem BdS.wf {s : GStation} (h : BdS s) : wfStation s := by unfold BdS at h; unfold wfStation I64; omega
theorem BdS.sz {s : GStation} (h : BdS s) : sz1Station s ≤ 16 := by unfold BdS at h; unfold sz1Station; omega
theorem bds_sz : ∀ {xs : List GStation}, (∀ s ∈ xs, BdS s) → szsStation xs ≤ 17 * xs.length
  | [], _ => by simp [szsStation]
  | s :: xs, h => by
    have h1 := (h s (List.mem_cons_self ..)).sz
    have h2 := bds_sz (xs := xs) fun t ht => h t (List.mem_cons_of_mem _ ht)
    unfold szsStation at h2 ⊢
    rw [List.map_cons, List.sum_cons, List.length_cons]
    omega
theorem grown_up {a w w' : World} {b : Nat} {row : Option Nat} (h : a.grownBy w (some b)) (hg : w.grownBy w' row) (hr : ∀ g, row = some g → a.heap.size ≤ g) : a.grownBy w' (some b) :=
  ⟨hg.os.trans h.os, hg.tape.trans h.tape, hg.output.trans h.output, Nat.le_trans h.size hg.size, fun i hi hne => (hg.block i (Nat.lt_of_lt_of_le hi h.size) (by intro e; have := hr i e.symm; omega)).trans (h.block i hi hne)⟩
theorem Stn.below {w0 w w' : World} {B b k : Nat} {v : Value} {xs : List GStation} (h : Stn w0 w B b k v xs) (hb : Below w.heap.size w w') : Stn w0 w' B b k v xs :=
  ⟨h.form, row_below h.row hb, h.bd, h.cur.keep (World.Below_grown hb) (by simp), grown_up h.gr (World.Below_grown hb) (by simp)⟩
theorem Stn.draw {w0 w w' : World} {B b k k' : Nat} {v : Value} {xs : List GStation} (h : Stn w0 w B b k v xs) (hb : b < w0.heap.size) (hg : w.grownBy w' (some b)) (hc : Cur w' B b k') : Stn w0 w' B b k' v xs :=
  ⟨h.form, kept_row h.row hg hb, h.bd, hc, h.gr.trans hg⟩
theorem Stn.mono {w0 w : World} {B b k k' : Nat} {v : Value} {xs : List GStation} (h : Stn w0 w B b k v xs) (hk : k ≤ k') : Stn w0 w B b k' v xs := ⟨h.form, h.row, h.bd, h.cur.mono hk, h.gr⟩
theorem Stn.lst {w0 w : World} {B b k : Nat} {v : Value} {xs : List GStation} (h : Stn w0 w B b k v xs) : StationL w w.heap.size v xs := (OwnK.of_row encStation_len (by omega) h.row).lst
theorem own_neS {v v' : Value} {b c : Nat} (h : v'.ownBlock = v.ownBlock ∨ v'.ownBlock = some c) (hv : v.ownBlock ≠ some b) (hc : c ≠ b) : v'.ownBlock ≠ some b := by
  rcases h with h | h
  · rw [h]; exact hv
  · rw [h]; exact fun e => hc (Option.some.inj e)
theorem stn_snoc {w0 w w' : World} {B b k : Nat} {v v' : Value} {o : Obj} {xs : List GStation} {s : GStation} (hb : b < w0.heap.size) (hr : w.ownsRow w0.heap.size 60 8 v xs.length (xs.flatMap encStation)) (hbd : ∀ s ∈ xs, BdS s) (hs : BdS s) (hc : Cur w B b k) (hgr : w0.grownBy w (some b))
    (hr' : w'.ownsRow w0.heap.size 60 8 v' (xs.length + 1) (xs.flatMap encStation ++ encStation s)) (hg : (w.alloc o).grownBy w' v.ownBlock) : Stn w0 w' B b k v' (xs ++ [s]) := by
  have hlo : ∀ g, v.ownBlock = some g → w0.heap.size ≤ g := fun g e => (hr.lt g e).1
  have e1 : (xs ++ [s]).flatMap encStation = xs.flatMap encStation ++ encStation s := by simp [List.flatMap_append]
  have e2 : (xs ++ [s]).length = xs.length + 1 := by simp
  obtain ⟨g, cap, rfl, _⟩ := row_some hr' (by omega)
  refine ⟨⟨g, cap, by rw [e2]⟩, by rw [e1, e2]; exact hr', fun t ht => ?_, (hc.alloc _).keep hg fun g e => Nat.lt_of_lt_of_le hb (hlo g e), grown_up (hgr.trans (grown_alloc _ _ _)) hg hlo⟩
  rcases List.mem_append.1 ht with q | q
  · exact hbd t q
  · rw [List.mem_singleton] at q; rw [q]; exact hs
set_option maxRecDepth 100000 in
set_option maxHeartbeats 4000000 in
theorem cur_stations (w : World) (B b k : Nat) (h : Cur w B b k) (hk : k ≤ 500000) :
    Calls Try.prog 94 #[.pointer (some ⟨b, 0, none⟩)] w fun e w' => ∃ (v : Value) (xs : List GStation), e = .returned v ∧ xs.length ≤ 20 ∧ Stn w w' B b (k + 1000) v xs := by
  obtain ⟨ti, hi, hz0, hz1, hz2⟩ := info_parts info_StationP
  have hbw := h.lt
  have hrow0 := rowK_empty w (base := w.heap.size) 60 8 (Nat.le_refl _)
  go_enter Try.func94, Try.ntmps94
  go_wp2_with fail
  refine (cur_pick _ B b k 9 (h.alloc _) (by omega) (by omega) (by omega)).mono ?_
  rintro e w1 ⟨r, rfl, hr0, hr1, hc1, hg1⟩
  obtain ⟨m0, rfl⟩ : ∃ m : Nat, r = m := ⟨r.toNat, by omega⟩
  have hS0 : Stn w w1 B b (k + 2) (.slice (some ⟨w.heap.size, 0, none⟩) 0 0) [] := ⟨⟨_, _, rfl⟩, kept_row hrow0 hg1 hbw, by simp, hc1, (grown_alloc w _ _).trans hg1⟩
  have HS0 := Lib.hid hS0
  clear hS0 hrow0 hg1 hc1 h
  go_wp2
  go_loopw [3, 4, 5] (fun o i n wr => ∃ (m : Nat) (id : Int) (xs : List GStation), n = .int .i64 m ∧ i = .int .i64 id ∧ m ≤ 8 ∧ xs.length + m ≤ 8 ∧ (0 ≤ id ∧ id ≤ 3 * (8 - (m : Int))) ∧ Stn w wr B b (k + 2 + 60 * (8 - m)) o xs) (fun _ _ n _ => (intOf n).toNat)
  case atStart => exact ⟨m0, 0, [], rfl, rfl, by omega, by simp; omega, by omega, ⟨HS0.out.form, HS0.out.row, HS0.out.bd, HS0.out.cur.mono (by omega), HS0.out.gr⟩⟩
  case round =>
    obtain ⟨m, id, xs, rfl, rfl, hm8, hlen, ⟨hid0, hid1⟩, hS⟩ := hrel
    obtain ⟨g, cap, rfl⟩ := hS.form
    have HS := Lib.hid hS
    have zr := hS.gr.size
    have hrl := hS.row.lt g rfl
    have hlx := hS.row.1
    clear hS
    by_cases hm : 0 < m
    · have hm1 : (0 : Int) < (m : Int) := by omega
      have hm2 : (m : Int) ≤ 8 := by omega
      go_wp2_with fail
      refine (cur_pick _ B b _ 3 HS.out.cur (by omega) (by omega) (by omega)).mono ?_
      rintro e w2 ⟨r, rfl, hr0, hr1, hc2, hg2⟩
      have hrow2 := kept_row HS.out.row hg2 hbw
      have hbd := HS.out.bd
      have G2 := HS.out.gr.trans hg2
      have z2 := hg2.size
      have he2 := rowK_empty w2 (base := w.heap.size) 60 8 (by omega)
      have HSRC := Lib.hid (row_whole (hrow2.alloc (.cells #[] 60)) (oneStation xs) cap)
      have HE2 := Lib.hid he2
      clear he2
      go_wp2_with (at_builtin; refine wpList_append_srcK _ rfl _ _ 63 rfl w.heap.size 60 ti _ 8 72 Try.underlying63 hi hz0 hz1 hz2 rfl (by decide) (.slice (some ⟨w2.heap.size, 0, none⟩) 0 0) 0 [] rfl HE2.out _ xs.length (xs.flatMap encStation) rfl HSRC.out (by unfold maxLen; omega) (by omega) (by simp; omega) ?_; intro v3 w3 hr3 hg3 hat3)
      have hc3 : Cur w3 B b _ := (hc2.alloc _).keep hg3 (fun g e => by cases e; exact hc2.lt)
      have hr3' : w3.ownsRow w.heap.size 60 8 v3 xs.length (xs.flatMap encStation) := by simpa using hr3
      have hrow3 := (hrow2.alloc (.cells #[] 60)).kept hg3 (Or.inr (by simp [Value.ownBlock]; omega))
      have G3 := grown_up (G2.trans (grown_alloc _ _ _)) hg3 (fun g e => by cases e; simp; omega)
      have z3 : w2.heap.size + 1 ≤ w3.heap.size := by have := hg3.size; simpa using this
      have hv3 : v3.ownBlock ≠ some g := own_neS hat3 (by simp [Value.ownBlock]; omega) (by simp; omega)
      clear hr3 hg3 hat3 HE2 HSRC hrow2 hc2 G2 hg2
      go_wp2_with fail
      refine (cur_station _ B b _ (id + 1 + r) hc3 (by omega) (by omega)).mono ?_
      rintro e w4 ⟨s, rfl, hbs, hc4, hg4⟩
      have hr4 := kept_row hr3' hg4 hbw
      have hrow4 := kept_row hrow3 hg4 hbw
      have G4 := G3.trans hg4
      have z4 := hg4.size
      have HR4 := Lib.hid (hr4.alloc (.cells (encStation s).toArray 60))
      have HSRC := Lib.hid (srcK_box (Bx.new w4 (encStation s) 60) (fun u hu => by have := oneStation [s] u (by simpa using hu); exact this))
      clear hr3' hrow3 G3 hg4 hc3
      go_wp2_with (at_builtin; refine wpList_append_srcK _ rfl _ _ 63 rfl w.heap.size 60 ti _ 8 72 Try.underlying63 hi hz0 hz1 hz2 rfl (by decide) v3 xs.length (xs.flatMap encStation) rfl HR4.out _ 1 (encStation s) rfl HSRC.out (by unfold maxLen; omega) (by omega) (by simp; omega) ?_; intro v5 w5 hr5 hg5 _)
      have HN5 := Lib.hid (stn_snoc hbw hr4 hbd hbs hc4 G4 hr5 hg5)
      have HO5 : Hid (Stn w w5 B b _ (.slice (some ⟨g, 0, none⟩) xs.length cap) xs) := Lib.hid ⟨⟨g, cap, rfl⟩, (hrow4.alloc (.cells (encStation s).toArray 60)).kept hg5 (Or.inr (by intro e; exact hv3 e.symm)), hbd, HN5.out.cur, HN5.out.gr⟩
      clear hr4 hrow4 hg5 hr5 HR4 HSRC hc4 G4
      have hbd5 := HN5.out.bd
      have hl5 : (xs ++ [s]).length = xs.length + 1 := by simp
      have hsz5 := bds_sz hbd5
      obtain ⟨g5, cap5, rfl⟩ := HN5.out.form
      generalize hys : xs ++ [s] = ys at *
      cases hgy : goodL ys with
      | true =>
        go_wp2_with fail
        refine (specGoodV ys _ _ _ HN5.out.lst (Nat.le_refl _) (by omega) (fun s hs => (hbd5 s hs).wf) true hgy).mono ?_
        rintro e w6 ⟨rfl, hb6⟩
        have HN6 := Lib.hid (HN5.out.below hb6)
        clear HN5 HO5 hb6
        go_wp2
        go_roundw
        case rel =>
          have hn := HN6.out
          rw [hl5] at hn
          exact ⟨m - 1, _, ys, by rw [show ((m : Int) - 1) = ((m - 1 : Nat) : Int) by omega], rfl, by omega, by omega, by omega, hn.mono (by omega)⟩
        case measure => simp [intOf]; omega
      | false =>
        go_wp2_with fail
        refine (specGoodV ys _ _ _ HN5.out.lst (Nat.le_refl _) (by omega) (fun s hs => (hbd5 s hs).wf) false hgy).mono ?_
        rintro e w6 ⟨rfl, hb6⟩
        have HN6 := Lib.hid (HN5.out.below hb6)
        have HO6 := Lib.hid (HO5.out.below hb6)
        clear HN5 HO5 hb6
        go_wp2_with fail
        refine (cur_one _ B b _ 50 HN6.out.cur (by omega) (by omega) (by omega)).mono ?_
        rintro e w7 ⟨yes, rfl, hc7, hg7⟩
        have HN7 := Lib.hid (HN6.out.draw hbw hg7 hc7)
        have HO7 := Lib.hid (HO6.out.draw hbw hg7 hc7)
        clear HN6 HO6 hc7 hg7
        cases yes with
        | true =>
          go_wp2
          go_roundw
          case rel =>
            have hn := HN7.out
            rw [hl5] at hn
            exact ⟨m - 1, _, ys, by rw [show ((m : Int) - 1) = ((m - 1 : Nat) : Int) by omega], rfl, by omega, by omega, by omega, hn.mono (by omega)⟩
          case measure => simp [intOf]; omega
        | false =>
          go_wp2
          go_roundw
          case rel => exact ⟨m - 1, _, xs, by rw [show ((m : Int) - 1) = ((m - 1 : Nat) : Int) by omega], rfl, by omega, by omega, by omega, HO7.out.mono (by omega)⟩
          case measure => simp [intOf]; omega
    · have hm1 : ¬ (0 : Int) < (m : Int) := by omega
      go_wp2_with fail
      refine (cur_one _ B b _ 24 HS.out.cur (by omega) (by omega) (by omega)).mono ?_
      rintro e w2 ⟨yes, rfl, hc2, hg2⟩
      have HS2 := Lib.hid (HS.out.draw hbw hg2 hc2)
      cases yes with
      | false =>
        clear hc2 hg2
        go_wp2
        go_ret
        exact ⟨_, xs, rfl, by omega, HS2.out.mono (by omega)⟩
      | true =>
        have hz2 := hg2.size
        have he3 := rowK_empty w2 (base := w.heap.size) 60 8 (by have := HS2.out.gr.size; omega)
        have HS3 : Hid (Stn w (w2.alloc (.cells #[] 60)) B b (k + 500) (.slice (some ⟨w2.heap.size, 0, none⟩) 0 0) []) := Lib.hid ⟨⟨_, _, rfl⟩, he3, by simp, (hc2.alloc _).mono (by omega), HS2.out.gr.trans (grown_alloc _ _ _)⟩
        clear HS HS2 hc2 hg2 he3 hrl hlx hlen hid0 hid1 hm hm1 zr
        generalize hw3 : w2.alloc (.cells #[] 60) = w3 at HS3
        go_wp2
        clear hw3 hz2 HS0
        go_loopw [3, 7] (fun o n wr => ∃ (m : Nat) (xs : List GStation), n = .int .i64 m ∧ m ≤ 11 ∧ xs.length = m ∧ Stn w wr B b (k + 500 + 10 * m) o xs) (fun _ n _ => 12 - (intOf n).toNat)
        case atStart => exact ⟨0, [], rfl, by omega, rfl, HS3.out.mono (by omega)⟩
        case round =>
          obtain ⟨m, xs, rfl, hm, rfl, hS⟩ := hrel
          obtain ⟨g, cap, rfl⟩ := hS.form
          have HS := Lib.hid hS
          clear hS
          have hm9 : (xs.length : Int) ≤ 11 := by omega
          have hm0 : (0 : Int) ≤ (xs.length : Int) := by omega
          go_wp2_with fail
          refine (cur_pick _ B b _ 2 HS.out.cur (by omega) (by omega) (by omega)).mono ?_
          rintro e w4 ⟨r, rfl, hr0, hr1, hc4, hg4⟩
          have HS4 := Lib.hid (HS.out.draw hbw hg4 hc4)
          clear HS hc4 hg4
          by_cases hlt : (xs.length : Int) < 10 + r
          · have hcv : (convert 48 9 (.slice (some ⟨w4.heap.size, 0, none⟩) 1 1)).run Try.prog (w4.alloc (.cells #[.int .u8 (97 + (xs.length : Int))] 5)) = .ok (.string (strOfNums [97 + (xs.length : Int)])) (w4.alloc (.cells #[.int .u8 (97 + (xs.length : Int))] 5)) :=
              run_convert_bytes_arg (P := Try.prog) (w4.alloc (.cells #[.int .u8 (97 + (xs.length : Int))] 5)) 48 5 Try.underlying48 Try.underlying5 w4.heap.size 0 1 1 [97 + (xs.length : Int)] rfl (fun i hi => by
                obtain rfl : i = 0 := by omega
                have := (Bx.new w4 [.int .u8 (97 + (xs.length : Int))] 5).2 0 _ rfl
                simp) 9 Try.underlying9
            have hzs : (strOfNums [97 + (xs.length : Int)]).size = 1 := by simp [strOfNums, ByteArray.size]
            generalize strOfNums [97 + (xs.length : Int)] = zs at hcv hzs
            have HCV := Lib.hid hcv
            clear hcv
            go_wp2_with fail
            rw [HCV.out]
            have hbs : BdS (⟨(xs.length : Int) + 1, zs, 5 * (xs.length : Int), 0, 10, 1, 100 + (xs.length : Int), 0⟩ : GStation) := by unfold BdS; simp only; omega
            have hrow4 := HS4.out.row.alloc (.cells #[.int .u8 (97 + (xs.length : Int))] 5)
            have hg9 := grown_up HS4.out.gr (grown_alloc w4 (.cells #[.int .u8 (97 + (xs.length : Int))] 5) none) (by simp)
            have hc9 := HS4.out.cur.alloc (.cells #[.int .u8 (97 + (xs.length : Int))] 5)
            have hz9 := HS4.out.gr.size
            have HR5 := Lib.hid (hrow4.alloc (.cells (encStation (⟨(xs.length : Int) + 1, zs, 5 * (xs.length : Int), 0, 10, 1, 100 + (xs.length : Int), 0⟩ : GStation)).toArray 60))
            have HSRC := Lib.hid (srcK_box (Bx.new (w4.alloc (.cells #[.int .u8 (97 + (xs.length : Int))] 5)) (encStation (⟨(xs.length : Int) + 1, zs, 5 * (xs.length : Int), 0, 10, 1, 100 + (xs.length : Int), 0⟩ : GStation)) 60) (fun u hu => by have := oneStation [(⟨(xs.length : Int) + 1, zs, 5 * (xs.length : Int), 0, 10, 1, 100 + (xs.length : Int), 0⟩ : GStation)] u (by rw [List.flatMap_singleton]; exact hu); exact this))
            rw [World.size_alloc] at HSRC
            go_wp2_with (at_builtin; refine wpList_append_srcK _ rfl _ _ 63 rfl w.heap.size 60 ti _ 8 72 Try.underlying63 hi hz0 hz1 hz2 rfl (by decide) (.slice (some ⟨g, 0, none⟩) xs.length cap) xs.length (xs.flatMap encStation) rfl HR5.out _ 1 (encStation (⟨(xs.length : Int) + 1, zs, 5 * (xs.length : Int), 0, 10, 1, 100 + (xs.length : Int), 0⟩ : GStation)) rfl HSRC.out (by unfold maxLen; omega) (by omega) (by simp; omega) ?_; intro v5 w5 hr5 hg5 _)
            have HN5 := Lib.hid (stn_snoc hbw hrow4 HS4.out.bd hbs hc9 hg9 hr5 hg5)
            obtain ⟨g5, cap5, rfl⟩ := HN5.out.form
            clear hr5 hg5 HR5 HSRC hg9 hc9 hrow4 HS4 HCV
            have hl5 : (xs ++ [(⟨(xs.length : Int) + 1, zs, 5 * (xs.length : Int), 0, 10, 1, 100 + (xs.length : Int), 0⟩ : GStation)]).length = xs.length + 1 := by rw [List.length_append]; rfl
            go_wp2
            go_roundw
            case rel =>
              have hn := HN5.out
              rw [hl5] at hn
              exact ⟨xs.length + 1, xs ++ [(⟨(xs.length : Int) + 1, zs, 5 * (xs.length : Int), 0, 10, 1, 100 + (xs.length : Int), 0⟩ : GStation)], by go_num, by omega, hl5, (by first | exact hn.mono (by omega) | exact HN5.out.mono (by omega))⟩
            case measure => simp [intOf]; omega
          · go_wp2
            go_ret
            exact ⟨_, xs, rfl, by omega, HS4.out.mono (by omega)⟩
end Go.Proofs.Ytklilfbokpljkab
