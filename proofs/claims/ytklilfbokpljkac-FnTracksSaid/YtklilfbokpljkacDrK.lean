/- The specification's draws of tracks. -/
import Derived.Test.YtklilfbokpljkacDrP
import Derived.Test.YtklilfbokpljkacDrS
import Derived.Test.YtklilfbokpljkacTkI
import Derived.Test.YtklilfbokpljkacTkS
import Derived.Test.YtklilfbokpljkacIns
import Derived.Deep.RegionWith
namespace Go.Proofs.Ytklilfbokpljkac
open Go.ChangeShapes Go.WideShapes Go.ChangeAt Go.RowKit Go.ChangeMaps
set_option linter.unusedSimpArgs false
set_option linter.unusedVariables false
set_option linter.unusedSimpArgs false
set_option linter.unusedVariables false

def BdM (s : GClockMark) : Prop := (-2000000 ≤ s.pShown ∧ s.pShown ≤ 2000000) ∧ (-2000000 ≤ s.pTrue ∧ s.pTrue ≤ 2000000)
theorem BdM.wf {s : GClockMark} (h : BdM s) : wfClockMark s := by unfold BdM at h; unfold wfClockMark I64; omega
theorem kgrown_up {a w w' : World} {b : Nat} {row : Option Nat} (h : a.grownBy w (some b)) (hg : w.grownBy w' row) (hr : ∀ g, row = some g → a.heap.size ≤ g) : a.grownBy w' (some b) :=
  ⟨hg.os.trans h.os, hg.tape.trans h.tape, hg.output.trans h.output, Nat.le_trans h.size hg.size, fun i hi hne => (hg.block i (Nat.lt_of_lt_of_le hi h.size) (by intro e; have := hr i e.symm; omega)).trans (h.block i hi hne)⟩
/-- A list of marks that grows beside the cursor. -/
structure Mks (w0 w : World) (B b k : Nat) (v : Value) (xs : List GClockMark) : Prop where
  row : w.ownsRow w0.heap.size 50 2 v xs.length (xs.flatMap encClockMark)
  bd : ∀ s ∈ xs, BdM s
  cur : Cur w B b k
  gr : w0.grownBy w (some b)
theorem Mks.draw {w0 w w' : World} {B b k k' : Nat} {v : Value} {xs : List GClockMark} (h : Mks w0 w B b k v xs) (hb : b < w0.heap.size) (hg : w.grownBy w' (some b)) (hc : Cur w' B b k') : Mks w0 w' B b k' v xs :=
  ⟨kept_row h.row hg hb, h.bd, hc, h.gr.trans hg⟩
theorem Mks.alloc {w0 w : World} {B b k : Nat} {v : Value} {xs : List GClockMark} (h : Mks w0 w B b k v xs) (o : Obj) : Mks w0 (w.alloc o) B b k v xs :=
  ⟨h.row.alloc _, h.bd, h.cur.alloc _, h.gr.trans (grown_alloc _ _ _)⟩
theorem Mks.mono {w0 w : World} {B b k k' : Nat} {v : Value} {xs : List GClockMark} (h : Mks w0 w B b k v xs) (hk : k ≤ k') : Mks w0 w B b k' v xs := ⟨h.row, h.bd, h.cur.mono hk, h.gr⟩
theorem grown_set (w : World) (p : Addr) (u : Value) : w.grownBy (w.setCell p u) (some p.block) := ⟨rfl, rfl, rfl, by simp [World.setCell], fun i hi hne => Below.heap_setCell w p u i (fun e => hne (by rw [e]))⟩
theorem Mks.set {w0 w : World} {B b k : Nat} {v : Value} {xs : List GClockMark} (h : Mks w0 w B b k v xs) (hb : b < w0.heap.size) {p : Addr} (hp : w0.heap.size ≤ p.block) (hv : v.ownBlock ≠ some p.block) (u : Value) : Mks w0 (w.setCell p u) B b k v xs :=
  ⟨h.row.kept (grown_set w p u) (Or.inr (fun e => hv e)), h.bd, curSet h.cur (by omega) u, setP h.gr hp u⟩
theorem own_neM {v v' : Value} {b c : Nat} (h : v'.ownBlock = v.ownBlock ∨ v'.ownBlock = some c) (hv : v.ownBlock ≠ some b) (hc : c ≠ b) : v'.ownBlock ≠ some b := by
  rcases h with h | h
  · rw [h]; exact hv
  · rw [h]; exact fun e => hc (Option.some.inj e)
theorem mks_snoc {w0 w w' : World} {B b k : Nat} {v v' : Value} {xs : List GClockMark} {s : GClockMark} (h : Mks w0 w B b k v xs) (hb : b < w0.heap.size) (hs : BdM s)
    (hr' : w'.ownsRow w0.heap.size 50 2 v' (xs.length + 1) (xs.flatMap encClockMark ++ encClockMark s)) (hg : w.grownBy w' v.ownBlock) : Mks w0 w' B b k v' (xs ++ [s]) := by
  have hlo : ∀ g, v.ownBlock = some g → w0.heap.size ≤ g := fun g e => (h.row.lt g e).1
  have e1 : (xs ++ [s]).flatMap encClockMark = xs.flatMap encClockMark ++ encClockMark s := by simp [List.flatMap_append]
  have e2 : (xs ++ [s]).length = xs.length + 1 := by simp
  refine ⟨by rw [e1, e2]; exact hr', fun t ht => ?_, h.cur.keep hg fun g e => Nat.lt_of_lt_of_le hb (hlo g e), kgrown_up h.gr hg hlo⟩
  rcases List.mem_append.1 ht with q | q
  · exact h.bd t q
  · rw [List.mem_singleton] at q; rw [q]; exact hs
theorem mks_end {w wr : World} {B b k q g cap n : Nat} {xs : List GClockMark} {y x : GClockMark} (hb : b < w.heap.size) (h : Mks w wr B b k (.slice (some ⟨g, 0, none⟩) n cap) xs) (hn : xs.length = n) (hq : xs[q]? = some y) (hx : BdM x) :
    (∀ s ∈ xs.set q x, BdM s) ∧ ClockMarkO ((wr.setCell ⟨g, q * 2, none⟩ (.int .i64 x.pShown)).setCell ⟨g, q * 2 + 1, none⟩ (.int .i64 x.pTrue)) w.heap.size ((wr.setCell ⟨g, q * 2, none⟩ (.int .i64 x.pShown)).setCell ⟨g, q * 2 + 1, none⟩ (.int .i64 x.pTrue)).heap.size (.slice (some ⟨g, 0, none⟩) n cap) (xs.set q x) ∧
    Cur ((wr.setCell ⟨g, q * 2, none⟩ (.int .i64 x.pShown)).setCell ⟨g, q * 2 + 1, none⟩ (.int .i64 x.pTrue)) B b k ∧ w.grownBy ((wr.setCell ⟨g, q * 2, none⟩ (.int .i64 x.pShown)).setCell ⟨g, q * 2 + 1, none⟩ (.int .i64 x.pTrue)) (some b) := by
  subst hn
  have hg := (h.row.lt g rfl).1
  have own := OwnK.of_row encClockMark_len (by omega) h.row
  have hp := own.put encClockMark_len rfl hq (ad := q * 2) (by omega) x
  have e : putCells wr g (q * 2) (encClockMark x) 0 = (wr.setCell ⟨g, q * 2, none⟩ (.int .i64 x.pShown)).setCell ⟨g, q * 2 + 1, none⟩ (.int .i64 x.pTrue) := rfl
  rw [e] at hp
  refine ⟨fun s hs => ?_, ?_, curSet (curSet h.cur (by show b < g; omega) _) (by show b < g; omega) _, setP (setP h.gr (by show w.heap.size ≤ g; exact hg) _) (by show w.heap.size ≤ g; exact hg) _⟩
  · rcases List.mem_or_eq_of_mem_set hs with q1 | q1
    · exact h.bd s q1
    · rw [q1]; exact hx
  · exact hp.mono (Nat.le_refl _) (by simp [World.setCell])
theorem mks_cells {w wr : World} {B b k q g cap n : Nat} {xs : List GClockMark} {y : GClockMark} (h : Mks w wr B b k (.slice (some ⟨g, 0, none⟩) n cap) xs) (hn : xs.length = n) (hq : xs[q]? = some y) :
    (∀ o, wr.frozen? ⟨g, o, none⟩ = false) ∧ wr.cell? ⟨g, q * 2, none⟩ = some (.int .i64 y.pShown) ∧ wr.cell? ⟨g, q * 2 + 1, none⟩ = some (.int .i64 y.pTrue) := by
  subst hn
  obtain ⟨-, -, -, hc, hf⟩ := (OwnK.of_row encClockMark_len (by omega) h.row).at hq
  exact ⟨hf, by have := hc 0 _ rfl; simpa using this, by have := hc 1 _ rfl; simpa using this⟩
theorem mks_one {w wr : World} {B b k g cap n : Nat} {xs : List GClockMark} (h : Mks w wr B b k (.slice (some ⟨g, 0, none⟩) n cap) xs) (hn : xs.length = n) (h1 : 1 ≤ n) : ClockMarkO wr w.heap.size wr.heap.size (.slice (some ⟨g, 0, none⟩) 1 cap) (xs.take 1) := by
  subst hn
  obtain ⟨ao, cap', e, h2, h3, h4, h5⟩ := (OwnK.of_row encClockMark_len (by omega) h.row)
  simp only [Value.slice.injEq, true_and] at e
  obtain ⟨rfl, rfl⟩ := e
  refine ⟨_, cap, by rw [List.length_take, Nat.min_eq_left h1], by rw [List.length_take]; omega, h3, h4, fun i x hi => h5 i x ?_⟩
  rw [List.getElem?_take] at hi
  split at hi
  · exact hi
  · cases hi
set_option maxRecDepth 100000 in
set_option maxHeartbeats 1000000 in
theorem cur_track (w : World) (B b k : Nat) (h : Cur w B b k) (hk : k ≤ 500000) :
    Calls Try.prog 93 #[.pointer (some ⟨b, 0, none⟩)] w fun e w' => ∃ (v : Value) (xs : List GClockMark), e = .returned v ∧ (1 ≤ xs.length ∧ xs.length ≤ 11) ∧ (∀ s ∈ xs, BdM s) ∧ ClockMarkO w' w.heap.size w'.heap.size v xs ∧ Cur w' B b (k + 1000) ∧ w.grownBy w' (some b) := by
  obtain ⟨ti, hi, hz0, hz1, hz2⟩ := info_parts info_ClockMark
  have hbw := h.lt
  obtain ⟨W1, hW1⟩ : ∃ W1, w.alloc (.cells #[] 50) = W1 := ⟨_, rfl⟩
  have hM0 : Mks w W1 B b k (.slice (some ⟨w.heap.size, 0, none⟩) 0 0) [] := by
    subst hW1
    exact ⟨rowK_empty w (base := w.heap.size) 50 2 (Nat.le_refl _), by simp, h.alloc _, grown_alloc _ _ _⟩
  have hl1 := ints_lit W1 b hM0.cur.lt 3 4 [0, 0, 100, 900000]
  clear h
  go_enter Try.func93, Try.ntmps93
  go_wp2_with fail
  refine (cur_among _ B b k (hM0.cur.alloc _) (by omega) _ _ hl1 (by simp) (by simp)).mono ?_
  rintro e w2 ⟨sh, rfl, hsh, hc2, hg2⟩
  have hsh2 : 0 ≤ sh ∧ sh ≤ 900000 := by simp at hsh; omega
  have hM2 := (hM0.alloc _).draw hbw hg2 hc2
  have hl2 := ints_lit w2 b hc2.lt 3 4 [0, 5, 100, 899990]
  clear hsh hl1 hM0 hg2
  go_wp2_with fail
  refine (cur_among _ B b _ (hc2.alloc _) (by omega) _ _ hl2 (by simp) (by simp)).mono ?_
  rintro e w3 ⟨tr, rfl, htr, hc3, hg3⟩
  have htr2 : 0 ≤ tr ∧ tr ≤ 899990 := by simp at htr; omega
  have hM3 := (hM2.alloc _).draw hbw hg3 hc3
  have hz3 := hM3.gr.size
  have hz3' : w.heap.size < w3.heap.size := (hM3.row.lt _ rfl).2
  clear htr hl2 hM2 hg3 hc2 hc3 hW1
  have bm := Bx.new w3 [.int .i64 sh, .int .i64 tr] 50
  have hM4 := hM3.alloc (.cells #[.int .i64 sh, .int .i64 tr] 50)
  clear hM3
  go_wp2_with fail
  refine (cur_pick _ B b _ 4 hM4.cur (by omega) (by omega) (by omega)).mono ?_
  rintro e w4 ⟨r, rfl, hr0, hr1, hc4, hg4⟩
  obtain ⟨p0, rfl⟩ : ∃ p : Nat, r = p := ⟨r.toNat, by omega⟩
  have hM5 := hM4.draw hbw hg4 hc4
  have hz4 : w3.heap.size < w4.heap.size := by have := hg4.size; simp at this; omega
  have bm4 := bm.grown hg4 (by simp; omega)
  have HM5 := Lib.hid hM5
  clear bm hM4 hM5 hg4 hc4
  generalize hgm : w3.heap.size = gm at *
  clear hgm
  go_wp2
  go_loopw [3, 5] (fun o n wr => ∃ (c p : Nat) (v : Value) (xs : List GClockMark) (sh tr : Int), n = .int .i64 p ∧ o = v ∧ c + p ≤ 5 ∧ (2 ≤ c + p) ∧ xs.length = c ∧ Mks w wr B b (k + 10 + 10 * c) v xs ∧ Bx wr gm [.int .i64 sh, .int .i64 tr] ∧ v.ownBlock ≠ some gm ∧ (∃ ao cap, v = .slice ao c cap) ∧ (0 ≤ sh ∧ sh ≤ 900000 + 7000 * (c : Int)) ∧ (0 ≤ tr ∧ tr ≤ 900000 + 8000 * (c : Int))) (fun _ n _ => (intOf n).toNat)
  case atStart => exact ⟨0, p0 + 2, _, [], sh, tr, by go_num, rfl, by omega, by omega, rfl, HM5.out.mono (by omega), bm4, by simp [Value.ownBlock]; omega, ⟨_, _, rfl⟩, by omega, by omega⟩
  case round =>
    obtain ⟨c, p, _, xs, sh, tr, rfl, rfl, hcp, hcp2, hlen, hM, hbm, hvg, ⟨ao, cap, rfl⟩, hsh, htr⟩ := hrel
    clear bm4 HM5
    have HL := Lib.hid hlen
    clear hlen
    by_cases hp : 0 < p
    case neg =>
      obtain rfl : p = 0 := by omega
      have hc2 : 2 ≤ c := by omega
      have hc5 : c ≤ 5 := by omega
      clear hp hcp hcp2
      go_wp2_with fail
      refine (cur_pick _ B b _ (c : Int) hM.cur (by omega) (by omega) (by omega)).mono ?_
      rintro e w5 ⟨r, rfl, hr0, hr1, hc6, hg6⟩
      obtain ⟨q, rfl⟩ : ∃ q : Nat, r = q := ⟨r.toNat, by omega⟩
      have hM5 := hM.draw hbw hg6 hc6
      have bm5 := hbm.grown hg6 (by simp; omega)
      clear hM hbm hg6 hc6
      obtain ⟨y, hy⟩ := get_of_lt (l := xs) (k := q) (by rw [HL.out]; omega)
      have hyb := hM5.bd y (List.mem_of_getElem? hy)
      have hrow := hM5.row
      rw [HL.out] at hrow
      obtain ⟨g, cap2, e9, hcap1, hcap2, hg1, hg2⟩ := row_some hrow (by omega)
      simp only [Value.slice.injEq, true_and] at e9
      obtain ⟨rfl, rfl⟩ := e9
      have hgne : g ≠ gm := fun e => hvg (by rw [← e]; rfl)
      have own5 := OwnK.of_row encClockMark_len (by omega) hrow
      obtain ⟨-, -, -, yc, -⟩ := own5.at hy
      have y0 : w5.cell? ⟨g, q * 2, none⟩ = some (.int .i64 y.pShown) := by have := yc 0 _ rfl; simpa using this
      have y1 : w5.cell? ⟨g, q * 2 + 1, none⟩ = some (.int .i64 y.pTrue) := by have := yc 1 _ rfl; simpa using this
      clear yc own5 hrow
      have hM6 := hM5.alloc (.cells #[.int .i64 y.pShown, .int .i64 y.pTrue] 50)
      have bm6 := bm5.alloc (.cells #[.int .i64 y.pShown, .int .i64 y.pTrue] 50)
      have bx6 := Bx.new w5 [.int .i64 y.pShown, .int .i64 y.pTrue] 50
      have hz5 : w.heap.size ≤ w5.heap.size := hM5.gr.size
      have hgm5 : gm < w5.heap.size := bm5.1.1
      have mq0 : (0 : Int) ≤ (q : Int) := by omega
      clear hM5 bm5
      go_wp2_with fail
      refine (cur_pick _ B b _ 60 hM6.cur (by omega) (by omega) (by omega)).mono ?_
      rintro e w7 ⟨r, rfl, hr2, hr3, hc7, hg7⟩
      have hM7 := hM6.draw hbw hg7 hc7
      have bm7 := bm6.grown hg7 (by simp; omega)
      have bx7 := bx6.grown hg7 (by simp; omega)
      have hz7 : w5.heap.size < w7.heap.size := bx7.1.1
      clear hM6 bm6 bx6 hg7 hc7 y0 y1
      have hyq : q < c := by omega
      have HY := Lib.hid hy
      clear hy
      by_cases r0 : r = 0
      · subst r0
        have hl8 := ints_lit w7 b hM7.cur.lt 3 3 [-1, 1000001, 50]
        go_wp2_with fail
        refine (cur_among _ B b _ (hM7.cur.alloc _) (by omega) _ _ hl8 (by simp) (by simp)).mono ?_
        rintro e w8 ⟨z, rfl, hz, hc8, hg8⟩
        have hz2 : -1 ≤ z ∧ z ≤ 1000001 := by simp at hz; omega
        have hM8 := (hM7.alloc _).draw hbw hg8 hc8
        have bx8 := (bx7.alloc (.cells #[.int .i64 (-1), .int .i64 1000001, .int .i64 50] 3)).grown hg8 (by simp; omega)
        have bf8 := bx8.1.2
        have x0 := bx8.2 0 _ rfl
        have bx9 : Bx (w8.setCell ⟨w5.heap.size, 0, none⟩ (.int .i64 z)) w5.heap.size [.int .i64 z, .int .i64 y.pTrue] := bx8.setAt 0 (by simp) _
        have hM9 := hM8.set hbw (p := ⟨w5.heap.size, 0, none⟩) hz5 (by simp [Value.ownBlock]; omega) (.int .i64 z)
        obtain ⟨w9, hw9⟩ : ∃ x, w8.setCell ⟨w5.heap.size, 0, none⟩ (.int .i64 z) = x := ⟨_, rfl⟩
        rw [hw9] at bx9 hM9
        have n0 := bx9.2 0 _ rfl
        have n1 := bx9.2 1 _ rfl
        clear hz hl8 hM7 bm7 bx7 hc8 hg8 hM8
        have mq1 : (q : Int) < (c : Int) := by omega
        have HE := Lib.hid (mks_end (x := ⟨z, y.pTrue⟩) hbw hM9 HL.out HY.out (by unfold BdM at hyb ⊢; simp only; omega))
        obtain ⟨gf, gc0, gc1⟩ := mks_cells hM9 HL.out HY.out
        go_wp2
        go_ret
        exact ⟨_, _, rfl, ⟨by rw [List.length_set, HL.out]; omega, by rw [List.length_set, HL.out]; omega⟩, HE.out.1, HE.out.2.1, HE.out.2.2.1.mono (by omega), HE.out.2.2.2⟩
      have r0b : (r == 0) = false := by simpa using r0
      by_cases r1 : r = 1
      · subst r1
        have hl8 := ints_lit w7 b hM7.cur.lt 3 3 [-1, 1000001, 50]
        go_wp2_with fail
        refine (cur_among _ B b _ (hM7.cur.alloc _) (by omega) _ _ hl8 (by simp) (by simp)).mono ?_
        rintro e w8 ⟨z, rfl, hz, hc8, hg8⟩
        have hz2 : -1 ≤ z ∧ z ≤ 1000001 := by simp at hz; omega
        have hM8 := (hM7.alloc _).draw hbw hg8 hc8
        have bx8 := (bx7.alloc (.cells #[.int .i64 (-1), .int .i64 1000001, .int .i64 50] 3)).grown hg8 (by simp; omega)
        have bf8 := bx8.1.2
        have x0 := bx8.2 1 _ rfl
        have bx9 : Bx (w8.setCell ⟨w5.heap.size, 1, none⟩ (.int .i64 z)) w5.heap.size [.int .i64 y.pShown, .int .i64 z] := bx8.setAt 1 (by simp) _
        have hM9 := hM8.set hbw (p := ⟨w5.heap.size, 1, none⟩) hz5 (by simp [Value.ownBlock]; omega) (.int .i64 z)
        obtain ⟨w9, hw9⟩ : ∃ x, w8.setCell ⟨w5.heap.size, 1, none⟩ (.int .i64 z) = x := ⟨_, rfl⟩
        rw [hw9] at bx9 hM9
        have n0 := bx9.2 0 _ rfl
        have n1 := bx9.2 1 _ rfl
        clear hz hl8 hM7 bm7 bx7 hc8 hg8 hM8
        have mq1 : (q : Int) < (c : Int) := by omega
        have HE := Lib.hid (mks_end (x := ⟨y.pShown, z⟩) hbw hM9 HL.out HY.out (by unfold BdM at hyb ⊢; try simp only; omega))
        obtain ⟨gf, gc0, gc1⟩ := mks_cells hM9 HL.out HY.out
        go_wp2
        go_ret
        exact ⟨_, _, rfl, ⟨by rw [List.length_set, HL.out]; omega, by rw [List.length_set, HL.out]; omega⟩, HE.out.1, HE.out.2.1, HE.out.2.2.1.mono (by omega), HE.out.2.2.2⟩
      have r1b : (r == 1) = false := by simpa using r1
      by_cases r2 : r = 2
      · subst r2
        have HE := Lib.hid (mks_one hM7 HL.out (by omega))
        have mc1 : (1 : Int) ≤ (cap : Int) := by omega
        have HT : Hid (∀ s ∈ xs.take 1, BdM s) := Lib.hid (fun s hs => hM7.bd s (List.mem_of_mem_take hs))
        go_wp2
        go_ret
        exact ⟨_, _, rfl, ⟨by rw [List.length_take, HL.out]; omega, by rw [List.length_take, HL.out]; omega⟩, HT.out, HE.out, hM7.cur.mono (by omega), hM7.gr⟩
      have r2b : (r == 2) = false := by simpa using r2
      by_cases r3 : r = 3
      case neg =>
        have r3b : (r == 3) = false := by simpa using r3
        have n0 := bx7.2 0 _ rfl
        have n1 := bx7.2 1 _ rfl
        have mq1 : (q : Int) < (c : Int) := by omega
        have HE := Lib.hid (mks_end (x := ⟨y.pShown, y.pTrue⟩) hbw hM7 HL.out HY.out (by unfold BdM at hyb ⊢; try simp only; omega))
        obtain ⟨gf, gc0, gc1⟩ := mks_cells hM7 HL.out HY.out
        go_wp2
        go_ret
        exact ⟨_, _, rfl, ⟨by rw [List.length_set, HL.out]; omega, by rw [List.length_set, HL.out]; omega⟩, HE.out.1, HE.out.2.1, HE.out.2.2.1.mono (by omega), HE.out.2.2.2⟩
      subst r3
      have hvx : (Value.slice (some ⟨g, 0, none⟩) c cap).ownBlock ≠ some w5.heap.size := by simp [Value.ownBlock]; omega
      have hgx : w.heap.size ≤ w5.heap.size := hz5
      go_wp2
      generalize w5.heap.size = gx at *
      go_loopw [3] (fun o wr => ∃ (c2 : Nat) (v : Value) (xs2 : List GClockMark) (y2 : GClockMark) (sh2 tr2 : Int), o = v ∧ Hid (xs2.length = c2) ∧ (c ≤ c2 ∧ c2 ≤ 11) ∧ Mks w wr B b (k + 100 + 2 * c2) v xs2 ∧ Hid (xs2[q]? = some y2) ∧ Bx wr gm [.int .i64 sh2, .int .i64 tr2] ∧ Bx wr gx [.int .i64 y.pShown, .int .i64 y.pTrue] ∧ v.ownBlock ≠ some gm ∧ v.ownBlock ≠ some gx ∧ (∃ ao cap, v = .slice ao c2 cap) ∧ (0 ≤ sh2 ∧ sh2 ≤ 1000000 + 2 * (c2 : Int)) ∧ (0 ≤ tr2 ∧ tr2 ≤ 1000000 + 3 * (c2 : Int))) (fun o _ => match o with | .slice _ n _ => 20 - n | _ => 0)
      case atStart => exact ⟨c, _, xs, y, sh, tr, rfl, HL, ⟨Nat.le_refl _, by omega⟩, hM7.mono (by omega), HY, bm7, bx7, hvg, hvx, ⟨_, _, rfl⟩, by omega, by omega⟩
      case round =>
        obtain ⟨c2, _, xs2, y2, sh2, tr2, rfl, HL2, ⟨hc21, hc22⟩, hM, HY2, hbm, hbx, hvg2, hvx2, ⟨ao, cap3, rfl⟩, hsh2, htr2⟩ := hrel
        clear hM7 bm7 bx7
        go_wp2_with fail
        refine (cur_pick _ B b _ 2 hM.cur (by omega) (by omega) (by omega)).mono ?_
        rintro e w8 ⟨r, rfl, hr4, hr5, hc8, hg8⟩
        have hM8 := hM.draw hbw hg8 hc8
        have bm8 := hbm.grown hg8 (by simp; omega)
        have bx8 := hbx.grown hg8 (by simp; omega)
        clear hM hbm hbx hg8 hc8
        by_cases hcd : (c2 : Int) < 10 + r
        case neg =>
          have hrow := hM8.row
          rw [HL2.out] at hrow
          obtain ⟨g2, cap4, e9, hcap3, hcap4, hg3, hg4⟩ := row_some hrow (by omega)
          simp only [Value.slice.injEq, true_and] at e9
          obtain ⟨rfl, rfl⟩ := e9
          clear hrow
          have n0 := bx8.2 0 _ rfl
          have n1 := bx8.2 1 _ rfl
          have mq1 : (q : Int) < (c2 : Int) := by omega
          have HE := Lib.hid (mks_end (x := ⟨y.pShown, y.pTrue⟩) hbw hM8 HL2.out HY2.out (by unfold BdM at hyb ⊢; try simp only; omega))
          obtain ⟨gf, gc0, gc1⟩ := mks_cells hM8 HL2.out HY2.out
          go_wp2
          go_ret
          exact ⟨_, _, rfl, ⟨by rw [List.length_set, HL2.out]; omega, by rw [List.length_set, HL2.out]; omega⟩, HE.out.1, HE.out.2.1, HE.out.2.2.1.mono (by omega), HE.out.2.2.2⟩
        have m0 := bm8.2 0 _ rfl
        have m1 := bm8.2 1 _ rfl
        have hzr := hM8.gr.size
        have hgmr : gm < w8.heap.size := bm8.1.1
        have hgxr : gx < w8.heap.size := bx8.1.1
        have hrow := hM8.row
        rw [HL2.out] at hrow
        have SB := Lib.hid (srcK_box (Bx.new w8 [.int .i64 sh2, .int .i64 tr2] 50) (fun u hu => by simp at hu; rcases hu with rfl | rfl <;> rfl))
        have hc2i : (c2 : Int) ≤ 11 := by omega
        go_wp2_with (at_builtin; refine wpList_append_srcK _ rfl _ _ 45 rfl w.heap.size 50 ti _ 2 16 Try.underlying45 hi hz0 hz1 hz2 rfl (by decide) _ c2 (xs2.flatMap encClockMark) rfl (hrow.alloc _) _ 1 [.int .i64 sh2, .int .i64 tr2] rfl SB.out (by unfold maxLen; omega) (by omega) (by simp; omega) ?_; intro v9 w9 hr9 hg9 hat9; have bm9 : Bx w9 gm [.int .i64 sh2, .int .i64 tr2] := (bm8.alloc _).grown hg9 (fun e => hvg2 e.symm); have k0 := bm9.2 0 _ rfl; have kf := bm9.1.2; have bm10 : Bx (w9.setCell ⟨gm, 0, none⟩ (.int .i64 (sh2 + 2))) gm [.int .i64 (sh2 + 2), .int .i64 tr2] := bm9.setAt 0 (by simp) _; obtain ⟨w10, hw10⟩ : ∃ x, w9.setCell ⟨gm, 0, none⟩ (.int .i64 (sh2 + 2)) = x := ⟨_, rfl⟩; rw [hw10] at bm10; have k1 := bm10.2 1 _ rfl; have kf1 := bm10.1.2; have s1 : IntKind.i64.wrap (sh2 + 2) = sh2 + 2 := IntWalk.i64_in _ (by omega); have s2 : IntKind.i64.wrap (tr2 + 3) = tr2 + 3 := IntWalk.i64_in _ (by omega))
        have hM9 : Mks w w9 B b _ v9 (xs2 ++ [⟨sh2, tr2⟩]) := mks_snoc (hM8.alloc _) hbw (by unfold BdM; simp only; omega) (by rw [HL2.out]; exact hr9) hg9
        have bx9 : Bx w9 gx [.int .i64 y.pShown, .int .i64 y.pTrue] := (bx8.alloc _).grown hg9 (fun e => hvx2 e.symm)
        have hv9 : v9.ownBlock ≠ some gm := own_neM hat9 hvg2 (by simp; omega)
        have hx9 : v9.ownBlock ≠ some gx := own_neM hat9 hvx2 (by simp; omega)
        have hf9 := row_form hr9
        have HL9 : Hid ((xs2 ++ [(⟨sh2, tr2⟩ : GClockMark)]).length = c2 + 1) := Lib.hid (by rw [List.length_append, HL2.out]; rfl)
        have HY9 : Hid ((xs2 ++ [(⟨sh2, tr2⟩ : GClockMark)])[q]? = some y2) := Lib.hid (by rw [List.getElem?_append_left (List.getElem?_eq_some_iff.1 HY2.out).1]; exact HY2.out)
        generalize xs2 ++ [(⟨sh2, tr2⟩ : GClockMark)] = xs9 at *
        obtain ⟨ao9, cap9, rfl⟩ := hf9
        clear hM8 bm8 bx8 hr9 hg9 hat9 hrow SB m0 m1
        have bx10 : Bx w10 gx [.int .i64 y.pShown, .int .i64 y.pTrue] := hw10 ▸ bx9.setOther (p := ⟨gm, 0, none⟩) (by show gm ≠ gx; omega) (.int .i64 (sh2 + 2))
        have hM10 : Mks w w10 B b (k + 100 + 2 * c2 + 2) _ xs9 := hw10 ▸ hM9.set hbw (p := ⟨gm, 0, none⟩) (by show w.heap.size ≤ gm; omega) hv9 (.int .i64 (sh2 + 2))
        have bm11 := bm10.setAt 1 (by simp) (.int .i64 (tr2 + 3))
        have bx11 := bx10.setOther (p := ⟨gm, 1, none⟩) (by show gm ≠ gx; omega) (.int .i64 (tr2 + 3))
        have hM11 := hM10.set hbw (p := ⟨gm, 1, none⟩) (by show w.heap.size ≤ gm; omega) hv9 (.int .i64 (tr2 + 3))
        clear k0 kf k1 kf1 bm9 bx9 bm10 bx10 hM9 hM10
        generalize w10.setCell ⟨gm, 1, none⟩ (.int .i64 (tr2 + 3)) = w11 at *
        go_roundw
        case rel => exact ⟨c2 + 1, _, xs9, y2, sh2 + 2, tr2 + 3, rfl, HL9, ⟨by omega, by omega⟩, hM11.mono (by omega), HY9, bm11, bx11, hv9, hx9, ⟨_, _, rfl⟩, by omega, by omega⟩
        case measure => show 20 - (c2 + 1) < 20 - c2; omega
    have hp1 : (0 : Int) < (p : Int) := by omega
    have hp2 : (p : Int) ≤ 5 := by omega
    have m0 := hbm.2 0 _ rfl
    have m1 := hbm.2 1 _ rfl
    have hmf := hbm.1.2
    have hzr := hM.gr.size
    have hgmr : gm < wr.heap.size := hbm.1.1
    have hrow := hM.row
    rw [HL.out] at hrow
    have SB := Lib.hid (srcK_box (Bx.new wr [.int .i64 sh, .int .i64 tr] 50) (fun u hu => by simp at hu; rcases hu with rfl | rfl <;> rfl))
    have hlf := hrow.1
    go_wp2_with (at_builtin; refine wpList_append_srcK _ rfl _ _ 45 rfl w.heap.size 50 ti _ 2 16 Try.underlying45 hi hz0 hz1 hz2 rfl (by decide) _ c (xs.flatMap encClockMark) rfl (hrow.alloc _) _ 1 [.int .i64 sh, .int .i64 tr] rfl SB.out (by unfold maxLen; omega) (by omega) (by simp; omega) ?_; intro v5 w5 hr5 hg5 hat5)
    have hM5 : Mks w w5 B b (k + 10 + 10 * c) v5 (xs ++ [⟨sh, tr⟩]) := mks_snoc (hM.alloc _) hbw (by unfold BdM; simp only; omega) (by rw [HL.out]; exact hr5) hg5
    have bm5 : Bx w5 gm [.int .i64 sh, .int .i64 tr] := (hbm.alloc _).grown hg5 (fun e => hvg e.symm)
    have hv5 : v5.ownBlock ≠ some gm := own_neM hat5 hvg (by simp; omega)
    have hf5 := row_form hr5
    have hl5 := ints_lit w5 b hM5.cur.lt 3 4 [1, 10, 100, 7000]
    have hz5 : gm < w5.heap.size := bm5.1.1
    have HL5 : Hid ((xs ++ [(⟨sh, tr⟩ : GClockMark)]).length = c + 1) := Lib.hid (by rw [List.length_append, HL.out]; rfl)
    generalize xs ++ [(⟨sh, tr⟩ : GClockMark)] = xs5 at *
    obtain ⟨ao5, cap5, rfl⟩ := hf5
    clear hM hbm hvg hr5 hg5 hat5 hrow SB hlf HL hmf m0 m1
    refine (cur_among _ B b _ (hM5.cur.alloc _) (by omega) _ _ hl5 (by simp) (by simp)).mono ?_
    rintro e w6 ⟨st, rfl, hst, hc6, hg6⟩
    have hst2 : 1 ≤ st ∧ st ≤ 7000 := by simp at hst; omega
    have hM6 := (hM5.alloc _).draw hbw hg6 hc6
    have bm6 := (bm5.alloc (.cells #[.int .i64 1, .int .i64 10, .int .i64 100, .int .i64 7000] 3)).grown hg6 (by simp; omega)
    clear hst hl5 hM5 bm5 hg6 hc6
    have m0 := bm6.2 0 _ rfl
    have hmf := bm6.1.2
    have bm7 : Bx (w6.setCell ⟨gm, 0, none⟩ (.int .i64 (sh + st))) gm [.int .i64 (sh + st), .int .i64 tr] := bm6.setAt 0 (by simp) _
    have hM7 : Mks w (w6.setCell ⟨gm, 0, none⟩ (.int .i64 (sh + st))) B b _ _ _ := hM6.set hbw (p := ⟨gm, 0, none⟩) (by show w.heap.size ≤ gm; omega) hv5 (.int .i64 (sh + st))
    have s1 : IntKind.i64.wrap (sh + st) = sh + st := IntWalk.i64_in _ (by omega)
    clear hM6
    obtain ⟨w7, hw7⟩ : ∃ x, w6.setCell ⟨gm, 0, none⟩ (.int .i64 (sh + st)) = x := ⟨_, rfl⟩
    rw [hw7] at bm7 hM7
    have q1 := bm7.2 1 _ rfl
    have hl7 := ints_lit w7.drew b (show b < w7.heap.size from hM7.cur.lt) 3 5 [-1, 0, 0, 1, 3]
    have HC7 := Lib.hid hM7.cur
    have z7 : gm < w7.heap.size := bm7.1.1
    have hmf7 := bm7.1.2
    go_wp2
    clear hmf m0 hw7 bm6
    go_region_with (first
        | (go_at_call 87; refine (cur_among (w7.drew.alloc (.cells #[.int .i64 (-1), .int .i64 0, .int .i64 0, .int .i64 1, .int .i64 3] 3)) B b _ (Cur.alloc (w := w7.drew) HC7.out _) (by omega) _ _ hl7 (by simp) (by simp)).mono ?_; rintro e w8 ⟨a, rfl, ha, hc8, hg8⟩; have ha2 : -1 ≤ a ∧ a ≤ 3 := (by revert a; decide); have hg9 : w7.grownBy w8 (some b) := (lit_grown hg8); have sa : IntKind.i64.wrap (st + a) = st + a := IntWalk.i64_in _ (by omega); have ym : 1 ≤ mxT 1 (st + a) ∧ mxT 1 (st + a) ≤ 7003 := (by unfold mxT; split <;> omega); have sb : IntKind.i64.wrap (tr + mxT 1 (st + a)) = tr + mxT 1 (st + a) := IntWalk.i64_in _ (by omega); have bm8 := bm7.grown hg9 (by simp; omega); have q8 := bm8.2 1 _ rfl; have qf8 := bm8.1.2)
        | (go_at_call 105; refine (mostT 1 (st + a) _).mono ?_; rintro e w9 ⟨rfl, hw9⟩; subst hw9))
    all_goals
      have hM9 := (hM7.draw hbw hg9 hc8).set hbw (p := ⟨gm, 1, none⟩) (by show w.heap.size ≤ gm; omega) hv5 (.int .i64 (tr + mxT 1 (st + a)))
      have bm9 : Bx (w9.setCell ⟨gm, 1, none⟩ (.int .i64 (tr + mxT 1 (st + a)))) gm [.int .i64 (sh + st), .int .i64 (tr + mxT 1 (st + a))] := bm8.setAt 1 (by simp) _
      have HL6 := Lib.hid HL5.out
      clear hM7 bm7 q1 hl7 HC7 z7 hmf7 ha sa sb hc8 hg8 hg9 bm8 q8 qf8 HL5
      generalize mxT 1 (st + a) = ym9 at *
      generalize w9.setCell ⟨gm, 1, none⟩ (.int .i64 (tr + ym9)) = w10 at *
      go_wp2
      go_roundw
      case rel => exact ⟨c + 1, p - 1, _, xs5, sh + st, tr + ym9, by rw [show ((p : Int) - 1) = ((p - 1 : Nat) : Int) by omega], rfl, by omega, by omega, HL6.out, hM9.mono (by omega), bm9, hv5, ⟨_, _, rfl⟩, by omega, by omega⟩
      case measure => simp [intOf]; omega
end Go.Proofs.Ytklilfbokpljkac
