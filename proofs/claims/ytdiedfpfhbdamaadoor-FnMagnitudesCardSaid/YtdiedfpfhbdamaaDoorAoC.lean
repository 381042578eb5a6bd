/- The specification's draw of a table. -/
import Derived.Test.YtdiedfpfhbdamaaDoorCurG
import Derived.Test.YtdiedfpfhbdamaaDoorFTableRow
import Derived.Deep.CutBlock
import Derived.Deep.CutRange
import Derived.Deep.DeepCutAuto
namespace Go.Proofs.YtdiedfpfhbdamaaDoor
open Go.ChangeShapes Go.WideShapes Go.ChangeAt Go.RowKit Go.ChangeMaps
set_option linter.unusedSimpArgs false
set_option linter.unusedVariables false
set_option linter.unusedSimpArgs false
set_option linter.unusedVariables false

def BdT (s : GTableRow) : Prop := (-1 ≤ s.pFar ∧ s.pFar ≤ 1600) ∧ (-1 ≤ s.pBonus ∧ s.pBonus ≤ 1000)
theorem BdT.wf {s : GTableRow} (h : BdT s) : wfTableRow s := by unfold BdT at h; unfold wfTableRow I64; omega
/-- A list of arrivals that grows beside the cursor. -/
structure Tst (w0 w : World) (B b k : Nat) (v : Value) (xs : List GTableRow) : Prop where
  form : ∃ g cap, v = .slice (some ⟨g, 0, none⟩) xs.length cap
  row : w.ownsRow w0.heap.size 55 2 v xs.length (xs.flatMap encTableRow)
  bd : ∀ s ∈ xs, BdT s
  cur : Cur w B b k
  gr : w0.grownBy w (some b)
theorem Tst.below {w0 w w' : World} {B b k : Nat} {v : Value} {xs : List GTableRow} (h : Tst w0 w B b k v xs) (hb : Below w.heap.size w w') : Tst w0 w' B b k v xs :=
  ⟨h.form, row_below h.row hb, h.bd, h.cur.keep (World.Below_grown hb) (by simp), grown_up h.gr (World.Below_grown hb) (by simp)⟩
theorem Tst.alloc {w0 w : World} {B b k : Nat} {v : Value} {xs : List GTableRow} (h : Tst w0 w B b k v xs) (o : Obj) : Tst w0 (w.alloc o) B b k v xs := h.below ((Below.refl _ w).alloc (Nat.le_refl _) o)
theorem Tst.draw {w0 w w' : World} {B b k k' : Nat} {v : Value} {xs : List GTableRow} (h : Tst w0 w B b k v xs) (hb : b < w0.heap.size) (hg : w.grownBy w' (some b)) (hc : Cur w' B b k') : Tst w0 w' B b k' v xs :=
  ⟨h.form, kept_row h.row hg hb, h.bd, hc, h.gr.trans hg⟩
theorem Tst.mono {w0 w : World} {B b k k' : Nat} {v : Value} {xs : List GTableRow} (h : Tst w0 w B b k v xs) (hk : k ≤ k') : Tst w0 w B b k' v xs := ⟨h.form, h.row, h.bd, h.cur.mono hk, h.gr⟩
theorem tst_snoc {w0 w w' : World} {B b k : Nat} {v v' : Value} {o : Obj} {xs : List GTableRow} {s : GTableRow} (hb : b < w0.heap.size) (h : Tst w0 w B b k v xs) (hs : BdT s)
    (hr' : w'.ownsRow w0.heap.size 55 2 v' (xs.length + 1) (xs.flatMap encTableRow ++ encTableRow s)) (hg : (w.alloc o).grownBy w' v.ownBlock) : Tst w0 w' B b k v' (xs ++ [s]) := by
  have hr := h.row
  have hlo : ∀ g, v.ownBlock = some g → w0.heap.size ≤ g := fun g e => (hr.lt g e).1
  have e1 : (xs ++ [s]).flatMap encTableRow = xs.flatMap encTableRow ++ encTableRow s := by simp [List.flatMap_append]
  have e2 : (xs ++ [s]).length = xs.length + 1 := by simp
  obtain ⟨g, cap, rfl, _⟩ := row_some hr' (by omega)
  refine ⟨⟨g, cap, by rw [e2]⟩, by rw [e1, e2]; exact hr', fun t ht => ?_, (h.cur.alloc _).keep hg fun g e => Nat.lt_of_lt_of_le hb (hlo g e), grown_up (h.gr.trans (grown_alloc _ _ _)) hg hlo⟩
  rcases List.mem_append.1 ht with q | q
  · exact h.bd t q
  · rw [List.mem_singleton] at q; rw [q]; exact hs
/-- A list of arrivals that was drawn. -/
structure Tdl (w0 w : World) (B b k : Nat) (v : Value) (xs : List GTableRow) : Prop where
  form : ∃ g cap, v = .slice (some ⟨g, 0, none⟩) xs.length cap
  own : TableRowO w w0.heap.size w.heap.size v xs
  len : xs.length ≤ 12
  bd : ∀ s ∈ xs, BdT s
  cur : Cur w B b k
  gr : w0.grownBy w (some b)
theorem Tst.tdl {w0 w : World} {B b k : Nat} {v : Value} {xs : List GTableRow} (h : Tst w0 w B b k v xs) (hl : xs.length ≤ 12) : Tdl w0 w B b k v xs :=
  ⟨h.form, (OwnK.of_row encTableRow_len (by omega) h.row).mono (Nat.le_refl _) (Nat.le_refl _), hl, h.bd, h.cur, h.gr⟩
theorem Tdl.below {w0 w w' : World} {B b k : Nat} {v : Value} {xs : List GTableRow} (h : Tdl w0 w B b k v xs) (hb : Below w.heap.size w w') : Tdl w0 w' B b k v xs :=
  ⟨h.form, (h.own.below hb).mono (Nat.le_refl _) hb.size, h.len, h.bd, h.cur.keep (World.Below_grown hb) (by simp), grown_up h.gr (World.Below_grown hb) (by simp)⟩
theorem Tdl.alloc {w0 w : World} {B b k : Nat} {v : Value} {xs : List GTableRow} (h : Tdl w0 w B b k v xs) (o : Obj) : Tdl w0 (w.alloc o) B b k v xs := h.below ((Below.refl _ w).alloc (Nat.le_refl _) o)
theorem Tdl.draw {w0 w w' : World} {B b k k' : Nat} {v : Value} {xs : List GTableRow} (h : Tdl w0 w B b k v xs) (hb : b < w0.heap.size) (hg : w.grownBy w' (some b)) (hc : Cur w' B b k') : Tdl w0 w' B b k' v xs :=
  ⟨h.form, (h.own.kept hg.size fun i h1 _ h3 => hg.block i h3 (by intro e; cases e; omega)).mono (Nat.le_refl _) hg.size, h.len, h.bd, hc, h.gr.trans hg⟩
theorem Tdl.mono {w0 w : World} {B b k k' : Nat} {v : Value} {xs : List GTableRow} (h : Tdl w0 w B b k v xs) (hk : k ≤ k') : Tdl w0 w B b k' v xs := ⟨h.form, h.own, h.len, h.bd, h.cur.mono hk, h.gr⟩
theorem Tdl.lst {w0 w : World} {B b k : Nat} {v : Value} {xs : List GTableRow} (h : Tdl w0 w B b k v xs) : TableRowL w w.heap.size v xs := h.own.lst
theorem tdl_sz {xs : List GTableRow} (h : xs.length ≤ 12) : szsTableRow xs ≤ 1048576 := by rw [szsTableRow_split]; omega
theorem Tst.set1 {w0 w : World} {B b k g n cap : Nat} {xs : List GTableRow} (h : Tst w0 w B b k (.slice (some ⟨g, 0, none⟩) n cap) xs) {p : Addr} (hp : w0.heap.size ≤ p.block) (hpg : p.block ≠ g) (hb : b < p.block) (u : Value) : Tst w0 (w.setCell p u) B b k (.slice (some ⟨g, 0, none⟩) n cap) xs :=
  ⟨h.form, h.row.kept (row := some p.block) ⟨rfl, rfl, rfl, by simp [World.setCell], fun i hi hne => Below.heap_setCell w p u i (fun e => hne (by rw [e]))⟩ (Or.inr (by intro e; simp only [Value.ownBlock, Option.some.injEq] at e; exact hpg e.symm)), h.bd, curSet h.cur hb u, setP h.gr hp u⟩
theorem ints_lit1T (w : World) (o : Obj) (b : Nat) (hb : b < (w.alloc o).heap.size) (T : TypeId) (cap : Nat) (xs : List Int) :
    OfInts ((w.alloc o).alloc (.cells (xs.map (Value.int .i64)).toArray T)) b (.slice (some ⟨w.heap.size + 1, 0, none⟩) xs.length cap) xs := by
  have h := ints_lit (w.alloc o) b hb T cap xs
  rwa [World.size_alloc] at h
/-- A row that is stored anew. -/
theorem Tdl.set2 {w0 w : World} {B b k g n cap i : Nat} {x : GTableRow} {xs : List GTableRow} (h : Tdl w0 w B b k (.slice (some ⟨g, 0, none⟩) n cap) xs) (hb : b < w0.heap.size) (hx : xs[i]? = some x) (y : GTableRow) (hy : BdT y) :
    Tdl w0 ((w.setCell ⟨g, i * 2, none⟩ (.int .i64 y.pFar)).setCell ⟨g, i * 2 + 1, none⟩ (.int .i64 y.pBonus)) B b k (.slice (some ⟨g, 0, none⟩) n cap) (xs.set i y) := by
  obtain ⟨g9, cap9, e9⟩ := h.form
  have hat := h.own.at hx
  have hi := (List.getElem?_eq_some_iff.1 hx).1
  have o1 := h.own.set encTableRow_len (m := 0) (x := x) (y := ⟨y.pFar, x.pBonus⟩) (u := .int .i64 y.pFar) rfl hx (by omega) rfl
  rw [Nat.zero_add, Nat.add_zero] at o1
  have o2 := o1.set encTableRow_len (i := i) (m := 1) (x := ⟨y.pFar, x.pBonus⟩) (y := y) (u := .int .i64 y.pBonus) rfl (by rw [List.getElem?_set_self hi]) (by omega) rfl
  rw [Nat.zero_add, List.set_set] at o2
  have z : ((w.setCell ⟨g, i * 2, none⟩ (.int .i64 y.pFar)).setCell ⟨g, i * 2 + 1, none⟩ (.int .i64 y.pBonus)).heap.size = w.heap.size := by simp [World.setCell]
  have hg : w0.heap.size ≤ g := hat.1
  refine ⟨⟨g, cap, by simp only [Value.slice.injEq] at e9 ⊢; exact ⟨trivial, by rw [List.length_set]; exact e9.2.1, trivial⟩⟩, ?_, by rw [List.length_set]; exact h.len, fun s hs => ?_, curSet (curSet h.cur (by show b < g; omega) _) (by show b < g; omega) _, setP (setP h.gr (by show _ ≤ g; omega) _) (by show _ ≤ g; omega) _⟩
  · rw [z]
    exact o2
  · rcases List.mem_or_eq_of_mem_set hs with q | q
    · exact h.bd s q
    · rw [q]; exact hy
/-- The first row alone. -/
theorem Tdl.first {w0 w : World} {B b k g n cap : Nat} {x : GTableRow} {xs : List GTableRow} (h : Tdl w0 w B b k (.slice (some ⟨g, 0, none⟩) n cap) (x :: xs)) : Tdl w0 w B b k (.slice (some ⟨g, 0, none⟩) 1 cap) [x] := by
  obtain ⟨ao, c, e, h2, h3, h4, h5⟩ := h.own
  simp only [Value.slice.injEq] at e
  obtain ⟨rfl, rfl, rfl⟩ := e
  refine ⟨⟨g, cap, rfl⟩, ⟨_, cap, rfl, by simp only [List.length_cons, List.length_nil] at h2 ⊢; omega, h3, h4, fun i y hy => ?_⟩, by simp, fun s hs => h.bd s (by simp only [List.mem_singleton] at hs; rw [hs]; exact List.mem_cons_self), h.cur, h.gr⟩
  cases i with
  | zero => exact h5 0 y (by rw [List.getElem?_cons_zero] at hy ⊢; exact hy)
  | succ i => simp at hy
set_option maxRecDepth 100000 in
set_option maxHeartbeats 4000000 in
theorem cur_table (w : World) (B b k : Nat) (h : Cur w B b k) (hk : k ≤ 500000) :
    Calls Tryd.prog 23 #[.pointer (some ⟨b, 0, none⟩)] w fun e w' => ∃ (v : Value) (xs : List GTableRow), e = .returned v ∧ Tdl w w' B b (k + 200) v xs := by
  obtain ⟨ti, hi, hz0, hz1, hz2⟩ := info_parts info_TableRow
  have hbw := h.lt
  have HS0 : Hid (Tst w (w.alloc (.cells #[] 55)) B b k (.slice (some ⟨w.heap.size, 0, none⟩) 0 0) []) := Lib.hid ⟨⟨_, _, rfl⟩, rowK_empty w (base := w.heap.size) 55 2 (Nat.le_refl _), by simp, h.alloc _, grown_alloc w _ _⟩
  clear h
  go_enter Tryd.func23, Tryd.ntmps23
  have z1 := HS0.out.cur.lt
  go_wp2_with fail
  refine (cur_among _ B b _ (HS0.out.cur.alloc _) (by omega) _ _ (ints_lit1T w (.cells #[] 55) b z1 3 3 [0, 0, 10]) (by simp) (by simp)).mono ?_
  rintro e w1 ⟨fa, rfl, hx, hc, hg⟩
  have hbfa : 0 ≤ fa ∧ fa ≤ 10 := by
    revert fa
    decide
  have HS1 := Lib.hid ((HS0.out.alloc _).draw hbw hg hc)
  clear HS0 hc hg hx z1 
  have z2 := HS1.out.cur.lt
  go_wp2_with fail
  refine (cur_among _ B b _ (HS1.out.cur.alloc _) (by omega) _ _ (ints_lit w1 b z2 3 2 [0, 140]) (by simp) (by simp)).mono ?_
  rintro e w2 ⟨bo, rfl, hx, hc, hg⟩
  have hbbo : 0 ≤ bo ∧ bo ≤ 140 := by
    revert bo
    decide
  have HS2 := Lib.hid ((HS1.out.alloc _).draw hbw hg hc)
  clear HS1 hc hg hx z2 
  go_wp2_with fail
  refine (cur_pick _ B b _ 4 HS2.out.cur (by omega) (by omega) (by omega)).mono ?_
  rintro e w3 ⟨r, rfl, hr0, hr1, hc, hg⟩
  obtain ⟨m0, rfl⟩ : ∃ m : Nat, r = m := ⟨r.toNat, by omega⟩
  have HS3 := Lib.hid ((HS2.out.draw hbw hg hc).mono (k' := k + 20) (by omega))
  clear HS2 hc hg
  have s1 : IntKind.i64.wrap (2 + (m0 : Int)) = 2 + (m0 : Int) := IntWalk.i64_in _ (by omega)
  go_wp2
  go_loopw [3, 4, 5, 6] (fun o f q n wr => ∃ (m : Nat) (fa bo : Int) (xs : List GTableRow), n = .int .i64 m ∧ f = .int .i64 fa ∧ q = .int .i64 bo ∧ m ≤ 5 ∧ xs.length + m ≤ 5 ∧ 2 ≤ xs.length + m ∧ (0 ≤ fa ∧ fa ≤ 10 + 200 * (xs.length : Int)) ∧ (0 ≤ bo ∧ bo ≤ 140 + 100 * (xs.length : Int)) ∧ Tst w wr B b (k + 20 + 10 * xs.length) o xs) (fun _ _ _ n _ => (intOf n).toNat)
  case atStart => exact ⟨2 + m0, fa, bo, [], by go_num, rfl, rfl, by omega, by simp <;> omega, by simp <;> omega, by simp <;> omega, by simp <;> omega, HS3.out.mono (by omega)⟩
  case round =>
    clear HS3 s1 hr0 hr1 hbfa hbbo
    obtain ⟨m, fa, bo, xs, rfl, rfl, rfl, hm5, hl1, hl2, ⟨hf0, hf1⟩, ⟨hb0, hb1⟩, hS⟩ := hrel
    obtain ⟨g, cap, rfl⟩ := hS.form
    have HS4 := Lib.hid hS
    clear hS
    by_cases hm : 0 < m
    case pos =>
      have hm1 : (0 : Int) < (m : Int) := by omega
      have hbs : BdT (⟨fa, bo⟩ : GTableRow) := by unfold BdT; simp only; omega
      have HR5 := Lib.hid (HS4.out.row.alloc (.cells (encTableRow (⟨fa, bo⟩ : GTableRow)).toArray 55))
      have HSRC := Lib.hid (srcK_box (Bx.new wr (encTableRow (⟨fa, bo⟩ : GTableRow)) 55) (fun u hu => by have := oneTableRow [(⟨fa, bo⟩ : GTableRow)] u (by simpa using hu); exact this))
      have hz9 := HS4.out.gr.size
      go_wp2_with (at_builtin; refine wpList_append_srcK _ rfl _ _ 24 rfl w.heap.size 55 ti _ 2 16 Tryd.underlying24 hi hz0 hz1 hz2 rfl (by decide) (.slice (some ⟨g, 0, none⟩) xs.length cap) xs.length (xs.flatMap encTableRow) rfl HR5.out _ 1 (encTableRow (⟨fa, bo⟩ : GTableRow)) rfl HSRC.out (by unfold maxLen; omega) (by omega) (by simp; omega) ?_; intro v5 w5 hr5 hg5 hat5)
      have HS5 := Lib.hid (tst_snoc hbw HS4.out hbs hr5 hg5)
      clear hr5 hg5 HR5 HSRC HS4 hz9 hbs hat5 
      obtain ⟨g5, cap5, rfl⟩ := HS5.out.form
      have hl5 : (xs ++ [(⟨fa, bo⟩ : GTableRow)]).length = xs.length + 1 := by simp
      generalize xs ++ [(⟨fa, bo⟩ : GTableRow)] = ys at *
      have HL5 := Lib.hid hl5
      clear hl5
      have z6 := HS5.out.cur.lt
      go_wp2_with fail
      refine (cur_among _ B b _ (HS5.out.cur.alloc _) (by omega) _ _ (ints_lit w5 b z6 3 4 [1, 7, 50, 200]) (by simp) (by simp)).mono ?_
      rintro e w6 ⟨da, rfl, hx, hc, hg⟩
      have hbda : 0 ≤ da ∧ da ≤ 200 := by
        revert da
        decide
      have HS6 := Lib.hid ((HS5.out.alloc _).draw hbw hg hc)
      clear HS5 hc hg hx z6 
      have s2 : IntKind.i64.wrap (fa + da) = fa + da := IntWalk.i64_in _ (by omega)
      have z7 := HS6.out.cur.lt
      go_wp2_with fail
      refine (cur_among _ B b _ (HS6.out.cur.alloc _) (by omega) _ _ (ints_lit w6 b z7 3 4 [0, 10, 33, 100]) (by simp) (by simp)).mono ?_
      rintro e w7 ⟨db, rfl, hx, hc, hg⟩
      have hbdb : 0 ≤ db ∧ db ≤ 100 := by
        revert db
        decide
      have HS7 := Lib.hid ((HS6.out.alloc _).draw hbw hg hc)
      clear HS6 hc hg hx z7 
      have s3 : IntKind.i64.wrap (bo + db) = bo + db := IntWalk.i64_in _ (by omega)
      go_wp2
      go_roundw
      case rel => exact ⟨m - 1, fa + da, bo + db, ys, by rw [show ((m : Int) - 1) = ((m - 1 : Nat) : Int) by omega], by go_num, by go_num, by omega, by have := HL5.out; omega, by have := HL5.out; omega, by have := HL5.out; omega, by have := HL5.out; omega, HS7.out.mono (by have := HL5.out; omega)⟩
      case measure => simp [intOf]; omega
    case neg =>
      obtain rfl : m = 0 := by omega
      have hx5 : xs.length ≤ 5 := by omega
      have hx2 : 2 ≤ xs.length := by omega
      have hf2 : fa ≤ 1010 := by omega
      have hb2 : bo ≤ 640 := by omega
      clear hl1 hl2 hm hm5 hf1 hb1
      go_wp2_with fail
      refine (cur_pick _ B b _ (xs.length : Int) HS4.out.cur (by omega) (by omega) (by omega)).mono ?_
      rintro e w4 ⟨r, rfl, hr0, hr1, hc, hg⟩
      obtain ⟨kk, rfl⟩ : ∃ m : Nat, r = m := ⟨r.toNat, by omega⟩
      have HS5 := Lib.hid ((HS4.out.draw hbw hg hc).mono (k' := k + 80) (by omega))
      clear HS4 hc hg
      have hkk : kk < xs.length := by omega
      obtain ⟨y, hy⟩ := get_of_lt hkk
      have hyb := HS5.out.bd y (List.mem_of_getElem? hy)
      have hat := (HS5.out.tdl (by omega)).own.at hy
      have c0 : w4.cell? ⟨g, kk * 2, none⟩ = some (.int .i64 y.pFar) := by have := hat.2.2.2.1 0 _ rfl; simpa using this
      have c1 : w4.cell? ⟨g, kk * 2 + 1, none⟩ = some (.int .i64 y.pBonus) := by have := hat.2.2.2.1 1 _ rfl; simpa using this
      have hgw : g < w4.heap.size := hat.2.2.1
      have i1 : (kk : Int) < (xs.length : Int) := by omega
      have i0 : (0 : Int) ≤ (kk : Int) := by omega
      obtain ⟨W5, hW5⟩ : ∃ W5, w4.alloc (.cells #[.int .i64 y.pFar, .int .i64 y.pBonus] 55) = W5 := ⟨_, rfl⟩
      have bR : Bx W5 w4.heap.size [.int .i64 y.pFar, .int .i64 y.pBonus] := hW5 ▸ Bx.new w4 [.int .i64 y.pFar, .int .i64 y.pBonus] 55
      have HS6 := Lib.hid (hW5 ▸ HS5.out.alloc (.cells #[.int .i64 y.pFar, .int .i64 y.pBonus] 55))
      have y4 : w.heap.size ≤ w4.heap.size := HS5.out.gr.size
      have y5 : w4.heap.size < W5.heap.size := bR.1.1
      obtain ⟨⟨hy0, hy1⟩, hy2, hy3⟩ := hyb
      clear hat hy HS5
      go_wp2_with fail
      clear hW5 c0 c1
      refine (cur_pick _ B b _ 60 HS6.out.cur (by omega) (by omega) (by omega)).mono ?_
      rintro e w7 ⟨c, rfl, hcc0, hcc1, hc, hg⟩
      have HS7 := Lib.hid (HS6.out.draw hbw hg hc)
      have bR7 := bR.grown hg (by intro e; cases e; omega)
      have y7 : w4.heap.size < w7.heap.size := bR7.1.1
      clear HS6 bR hc hg y5
      by_cases hcv : c = 0
      case pos =>
        have g0 : (c == 0) = true := by simp [hcv]
        have z8 := HS7.out.cur.lt
        go_wp2_with fail
        refine (cur_among _ B b _ (HS7.out.cur.alloc _) (by omega) _ _ (ints_lit w7 b z8 3 3 [-1, 1501, 8]) (by simp) (by simp)).mono ?_
        rintro e w8 ⟨nf, rfl, hx, hc, hg⟩
        have hbnf : -1 ≤ nf ∧ nf ≤ 1600 := by
          revert nf
          decide
        have HS8 := Lib.hid ((HS7.out.alloc _).draw hbw hg hc)
        have bR8 := (bR7.alloc _).grown hg (by intro e; cases e; omega)
        clear HS7 hc hg hx z8 bR7
        have q0 := bR8.2 0 _ rfl
        have q1 := bR8.2 1 _ rfl
        have qf := bR8.1.2
        have y8 : w4.heap.size < w8.heap.size := bR8.1.1
        obtain ⟨W9, hW9⟩ : ∃ W9, w8.setCell ⟨w4.heap.size, 0, none⟩ (.int .i64 nf) = W9 := ⟨_, rfl⟩
        have HS9 := Lib.hid (hW9 ▸ HS8.out.set1 (p := ⟨w4.heap.size, 0, none⟩) (by show w.heap.size ≤ w4.heap.size; omega) (by show w4.heap.size ≠ g; omega) (by show b < w4.heap.size; omega) (.int .i64 nf))
        have bR9 := bR8.setAt 0 (by simp) (.int .i64 nf)
        rw [hW9] at bR9
        clear HS8 bR8
        have hlx := HS9.out
        obtain ⟨y9, hy9⟩ := get_of_lt (l := xs) (k := kk) (by omega)
        have HD := Lib.hid (HS9.out.tdl (by omega))
        have hat := HD.out.own.at hy9
        have f0 := hat.2.2.2.2 (kk * 2)
        have f1 := hat.2.2.2.2 (kk * 2 + 1)
        have c0 : W9.cell? ⟨g, kk * 2, none⟩ = some (.int .i64 y9.pFar) := by have := hat.2.2.2.1 0 _ rfl; simpa using this
        have c1 : W9.cell? ⟨g, kk * 2 + 1, none⟩ = some (.int .i64 y9.pBonus) := by have := hat.2.2.2.1 1 _ rfl; simpa using this
        have j1 : (kk : Int) < (xs.length : Int) := by omega
        have q0 := bR9.2 0 _ rfl
        have q1 := bR9.2 1 _ rfl
        have HN := Lib.hid (HD.out.set2 hbw hy9 ⟨nf, y.pBonus⟩ (by unfold BdT; simp only; omega))
        clear hat hlx HS9
        go_wp2
        go_ret
        exact ⟨_, _, rfl, HN.out.mono (by omega)⟩
      have hcn0 : ¬ c = 0 := hcv
      clear hcv
      by_cases hcv : c = 1
      case pos =>
        have g0 : (c == 0) = false := by simp; omega
        have g1 : (c == 1) = true := by simp [hcv]
        have z8 := HS7.out.cur.lt
        go_wp2_with fail
        refine (cur_among _ B b _ (HS7.out.cur.alloc _) (by omega) _ _ (ints_lit w7 b z8 3 3 [-1, 601, 0]) (by simp) (by simp)).mono ?_
        rintro e w8 ⟨nb, rfl, hx, hc, hg⟩
        have hbnb : -1 ≤ nb ∧ nb ≤ 1000 := by
          revert nb
          decide
        have HS8 := Lib.hid ((HS7.out.alloc _).draw hbw hg hc)
        have bR8 := (bR7.alloc _).grown hg (by intro e; cases e; omega)
        clear HS7 hc hg hx z8 bR7
        have q0 := bR8.2 0 _ rfl
        have q1 := bR8.2 1 _ rfl
        have qf := bR8.1.2
        have y8 : w4.heap.size < w8.heap.size := bR8.1.1
        obtain ⟨W9, hW9⟩ : ∃ W9, w8.setCell ⟨w4.heap.size, 1, none⟩ (.int .i64 nb) = W9 := ⟨_, rfl⟩
        have HS9 := Lib.hid (hW9 ▸ HS8.out.set1 (p := ⟨w4.heap.size, 1, none⟩) (by show w.heap.size ≤ w4.heap.size; omega) (by show w4.heap.size ≠ g; omega) (by show b < w4.heap.size; omega) (.int .i64 nb))
        have bR9 := bR8.setAt 1 (by simp) (.int .i64 nb)
        rw [hW9] at bR9
        clear HS8 bR8
        have hlx := HS9.out
        obtain ⟨y9, hy9⟩ := get_of_lt (l := xs) (k := kk) (by omega)
        have HD := Lib.hid (HS9.out.tdl (by omega))
        have hat := HD.out.own.at hy9
        have f0 := hat.2.2.2.2 (kk * 2)
        have f1 := hat.2.2.2.2 (kk * 2 + 1)
        have c0 : W9.cell? ⟨g, kk * 2, none⟩ = some (.int .i64 y9.pFar) := by have := hat.2.2.2.1 0 _ rfl; simpa using this
        have c1 : W9.cell? ⟨g, kk * 2 + 1, none⟩ = some (.int .i64 y9.pBonus) := by have := hat.2.2.2.1 1 _ rfl; simpa using this
        have j1 : (kk : Int) < (xs.length : Int) := by omega
        have q0 := bR9.2 0 _ rfl
        have q1 := bR9.2 1 _ rfl
        have HN := Lib.hid (HD.out.set2 hbw hy9 ⟨y.pFar, nb⟩ (by unfold BdT; simp only; omega))
        clear hat hlx HS9
        go_wp2
        go_ret
        exact ⟨_, _, rfl, HN.out.mono (by omega)⟩
      have hcn1 : ¬ c = 1 := hcv
      clear hcv
      by_cases hcv : c = 2
      case pos =>
        have g0 : (c == 0) = false := by simp; omega
        have g1 : (c == 1) = false := by simp; omega
        have g2 : (c == 2) = true := by simp [hcv]
        obtain ⟨x9, xt, rfl⟩ : ∃ x xt, xs = x :: xt := by
          cases xs with
          | nil => simp at hx2
          | cons x xt => exact ⟨x, xt, rfl⟩
        have HD := Lib.hid (HS7.out.tdl (by omega)).first
        obtain ⟨ao8, c8, e8, hcap8, hmx8, -, -⟩ := (HS7.out.tdl (by omega)).own
        simp only [Value.slice.injEq] at e8
        obtain ⟨-, -, rfl⟩ := e8
        have d1 : (1 : Int) ≤ (cap : Int) := by simp only [List.length_cons] at hcap8; omega
        have d2 : 1 ≤ cap := by omega
        clear HS7 bR7
        go_wp2
        go_ret
        exact ⟨_, _, rfl, HD.out.mono (by omega)⟩
      have hcn2 : ¬ c = 2 := hcv
      clear hcv
      by_cases hcv : c = 3
      case neg =>
        have hcn3 : ¬ c = 3 := hcv
        clear hcv
        have g0 : (c == 0) = false := by simp; omega
        have g1 : (c == 1) = false := by simp; omega
        have g2 : (c == 2) = false := by simp; omega
        have g3 : (c == 3) = false := by simp; omega
        have hlx := HS7.out
        obtain ⟨y9, hy9⟩ := get_of_lt (l := xs) (k := kk) (by omega)
        have HD := Lib.hid (HS7.out.tdl (by omega))
        have hat := HD.out.own.at hy9
        have f0 := hat.2.2.2.2 (kk * 2)
        have f1 := hat.2.2.2.2 (kk * 2 + 1)
        have c0 : w7.cell? ⟨g, kk * 2, none⟩ = some (.int .i64 y9.pFar) := by have := hat.2.2.2.1 0 _ rfl; simpa using this
        have c1 : w7.cell? ⟨g, kk * 2 + 1, none⟩ = some (.int .i64 y9.pBonus) := by have := hat.2.2.2.1 1 _ rfl; simpa using this
        have j1 : (kk : Int) < (xs.length : Int) := by omega
        have q0 := bR7.2 0 _ rfl
        have q1 := bR7.2 1 _ rfl
        have HN := Lib.hid (HD.out.set2 hbw hy9 ⟨y.pFar, y.pBonus⟩ (by unfold BdT; simp only; omega))
        clear hat hlx HS7
        go_wp2
        go_ret
        exact ⟨_, _, rfl, HN.out.mono (by omega)⟩
      case pos =>
        have g0 : (c == 0) = false := by simp; omega
        have g1 : (c == 1) = false := by simp; omega
        have g2 : (c == 2) = false := by simp; omega
        have g3 : (c == 3) = true := by simp [hcv]
        have HN0 : Hid ((Value.slice (some ⟨g, 0, none⟩) xs.length cap).ownBlock ≠ some w4.heap.size) := Lib.hid (fun e => by have h9 : g = w4.heap.size := Option.some.inj e; omega)
        go_wp2
        clear hgw
        go_loopw [3, 4] (fun o f wr => ∃ (fa : Int) (xs : List GTableRow), xs.length ≤ 10 ∧ kk < xs.length ∧ f = .int .i64 fa ∧ (0 ≤ fa ∧ fa ≤ 1010 + 5 * (xs.length : Int)) ∧ o.ownBlock ≠ some w4.heap.size ∧ Bx wr w4.heap.size [.int .i64 y.pFar, .int .i64 y.pBonus] ∧ Tst w wr B b (k + 100 + 2 * xs.length) o xs) (fun o _ _ => 11 - (match o with | .slice _ n _ => n | _ => 0))
        case atStart => exact ⟨fa, xs, by omega, hkk, rfl, by omega, HN0.out, bR7, HS7.out.mono (by omega)⟩
        case round =>
          clear HS7 bR7 hx5 hx2 hkk i1 HN0 hf0 hf2 y7
          obtain ⟨fa, ys, hl9, hkk, rfl, ⟨hf0, hf1⟩, hno, bR7, hS⟩ := hrel
          obtain ⟨g, cap, rfl⟩ := hS.form
          have HNO := Lib.hid hno
          have HS5 := Lib.hid hS
          clear hS hno
          go_wp2_with fail
          refine (cur_pick _ B b _ 2 HS5.out.cur (by omega) (by omega) (by omega)).mono ?_
          rintro e w5 ⟨q, rfl, hq0, hq1, hc, hg⟩
          have HS6 := Lib.hid (HS5.out.draw hbw hg hc)
          have bR8 := bR7.grown hg (by intro e; cases e; omega)
          have y8 : w4.heap.size < w5.heap.size := bR8.1.1
          clear HS5 hc hg bR7
          have s1 : IntKind.i64.wrap (8 + q) = 8 + q := IntWalk.i64_in _ (by omega)
          have s2 : IntKind.i64.wrap (fa + 5) = fa + 5 := IntWalk.i64_in _ (by omega)
          by_cases hlt : (ys.length : Int) < 8 + q
          case neg =>
            have hlx := HS6.out
            obtain ⟨y9, hy9⟩ := get_of_lt (l := ys) (k := kk) (by omega)
            have HD := Lib.hid (HS6.out.tdl (by omega))
            have hat := HD.out.own.at hy9
            have f0 := hat.2.2.2.2 (kk * 2)
            have f1 := hat.2.2.2.2 (kk * 2 + 1)
            have c0 : w5.cell? ⟨g, kk * 2, none⟩ = some (.int .i64 y9.pFar) := by have := hat.2.2.2.1 0 _ rfl; simpa using this
            have c1 : w5.cell? ⟨g, kk * 2 + 1, none⟩ = some (.int .i64 y9.pBonus) := by have := hat.2.2.2.1 1 _ rfl; simpa using this
            have j1 : (kk : Int) < (ys.length : Int) := by omega
            have q0 := bR8.2 0 _ rfl
            have q1 := bR8.2 1 _ rfl
            have HN := Lib.hid (HD.out.set2 hbw hy9 ⟨y.pFar, y.pBonus⟩ (by unfold BdT; simp only; omega))
            clear hat hlx HS6
            go_wp2
            go_ret
            exact ⟨_, _, rfl, HN.out.mono (by omega)⟩
          have hl7 : ys.length ≤ 8 := by omega
          have hbs : BdT (⟨fa, bo⟩ : GTableRow) := by unfold BdT; simp only; omega
          have HR5 := Lib.hid (HS6.out.row.alloc (.cells (encTableRow (⟨fa, bo⟩ : GTableRow)).toArray 55))
          have HSRC := Lib.hid (srcK_box (Bx.new w5 (encTableRow (⟨fa, bo⟩ : GTableRow)) 55) (fun u hu => by have := oneTableRow [(⟨fa, bo⟩ : GTableRow)] u (by simpa using hu); exact this))
          have hz9 := HS6.out.gr.size
          go_wp2_with (at_builtin; refine wpList_append_srcK _ rfl _ _ 24 rfl w.heap.size 55 ti _ 2 16 Tryd.underlying24 hi hz0 hz1 hz2 rfl (by decide) (.slice (some ⟨g, 0, none⟩) ys.length cap) ys.length (ys.flatMap encTableRow) rfl HR5.out _ 1 (encTableRow (⟨fa, bo⟩ : GTableRow)) rfl HSRC.out (by unfold maxLen; omega) (by omega) (by simp; omega) ?_; intro v5 w7 hr5 hg5 hat5)
          have HS7 := Lib.hid (tst_snoc hbw HS6.out hbs hr5 hg5)
          have bR9 := (bR8.alloc (.cells (encTableRow (⟨fa, bo⟩ : GTableRow)).toArray 55)).grown hg5 (fun e => HNO.out e.symm)
          have hno2 := own_neS hat5 HNO.out (by simp; omega)
          clear hr5 hg5 HR5 HSRC HS6 hz9 hbs hat5 bR8
          obtain ⟨g5, cap5, rfl⟩ := HS7.out.form
          have hl5 : (ys ++ [(⟨fa, bo⟩ : GTableRow)]).length = ys.length + 1 := by simp
          generalize ys ++ [(⟨fa, bo⟩ : GTableRow)] = us at *
          have HL5 := Lib.hid hl5
          clear hl5
          go_wp2
          go_roundw
          case rel => exact ⟨fa + 5, us, by have := HL5.out; omega, by have := HL5.out; omega, by go_num, by have := HL5.out; omega, hno2, bR9, HS7.out.mono (by have := HL5.out; omega)⟩
          case measure => have := HL5.out; simp; omega
end Go.Proofs.YtdiedfpfhbdamaaDoor
