/- The specification's draws of arrivals. -/
import Derived.Test.YtoogofceoinniabVdA
namespace Go.Proofs.Ytoogofceoinniab
open Go.ChangeShapes Go.WideShapes Go.ChangeAt Go.RowKit Go.ChangeMaps
set_option linter.unusedSimpArgs false
set_option linter.unusedVariables false
set_option linter.unusedSimpArgs false
set_option linter.unusedVariables false

def BdA (a : GArrival) : Prop := (-1 ≤ a.pId ∧ a.pId ≤ 2000000) ∧ (-1 ≤ a.pX ∧ a.pX ≤ 2000000) ∧ (-1 ≤ a.pY ∧ a.pY ≤ 2000000) ∧ (-1 ≤ a.pTick ∧ a.pTick ≤ 2000000) ∧ (-1 ≤ a.pError ∧ a.pError ≤ 2000000)
theorem BdA.wf {a : GArrival} (h : BdA a) : wfArrival a := by unfold BdA at h; unfold wfArrival I64; omega
/-- A list of arrivals that grows beside the cursor. -/
structure Ast (w0 w : World) (B b k : Nat) (v : Value) (xs : List GArrival) : Prop where
  form : ∃ g cap, v = .slice (some ⟨g, 0, none⟩) xs.length cap
  row : w.ownsRow w0.heap.size 28 5 v xs.length (xs.flatMap encArrival)
  bd : ∀ s ∈ xs, BdA s
  cur : Cur w B b k
  gr : w0.grownBy w (some b)
theorem Ast.below {w0 w w' : World} {B b k : Nat} {v : Value} {xs : List GArrival} (h : Ast w0 w B b k v xs) (hb : Below w.heap.size w w') : Ast w0 w' B b k v xs :=
  ⟨h.form, row_below h.row hb, h.bd, h.cur.keep (World.Below_grown hb) (by simp), grown_up h.gr (World.Below_grown hb) (by simp)⟩
theorem Ast.alloc {w0 w : World} {B b k : Nat} {v : Value} {xs : List GArrival} (h : Ast w0 w B b k v xs) (o : Obj) : Ast w0 (w.alloc o) B b k v xs := h.below ((Below.refl _ w).alloc (Nat.le_refl _) o)
theorem Ast.draw {w0 w w' : World} {B b k k' : Nat} {v : Value} {xs : List GArrival} (h : Ast w0 w B b k v xs) (hb : b < w0.heap.size) (hg : w.grownBy w' (some b)) (hc : Cur w' B b k') : Ast w0 w' B b k' v xs :=
  ⟨h.form, kept_row h.row hg hb, h.bd, hc, h.gr.trans hg⟩
theorem Ast.mono {w0 w : World} {B b k k' : Nat} {v : Value} {xs : List GArrival} (h : Ast w0 w B b k v xs) (hk : k ≤ k') : Ast w0 w B b k' v xs := ⟨h.form, h.row, h.bd, h.cur.mono hk, h.gr⟩
theorem ast_snoc {w0 w w' : World} {B b k : Nat} {v v' : Value} {o : Obj} {xs : List GArrival} {s : GArrival} (hb : b < w0.heap.size) (h : Ast w0 w B b k v xs) (hs : BdA s)
    (hr' : w'.ownsRow w0.heap.size 28 5 v' (xs.length + 1) (xs.flatMap encArrival ++ encArrival s)) (hg : (w.alloc o).grownBy w' v.ownBlock) : Ast w0 w' B b k v' (xs ++ [s]) := by
  have hr := h.row
  have hlo : ∀ g, v.ownBlock = some g → w0.heap.size ≤ g := fun g e => (hr.lt g e).1
  have e1 : (xs ++ [s]).flatMap encArrival = xs.flatMap encArrival ++ encArrival s := by simp [List.flatMap_append]
  have e2 : (xs ++ [s]).length = xs.length + 1 := by simp
  obtain ⟨g, cap, rfl, _⟩ := row_some hr' (by omega)
  refine ⟨⟨g, cap, by rw [e2]⟩, by rw [e1, e2]; exact hr', fun t ht => ?_, (h.cur.alloc _).keep hg fun g e => Nat.lt_of_lt_of_le hb (hlo g e), grown_up (h.gr.trans (grown_alloc _ _ _)) hg hlo⟩
  rcases List.mem_append.1 ht with q | q
  · exact h.bd t q
  · rw [List.mem_singleton] at q; rw [q]; exact hs
/-- A list of arrivals that was drawn. -/
structure Adl (w0 w : World) (B b k : Nat) (v : Value) (xs : List GArrival) : Prop where
  form : ∃ g cap, v = .slice (some ⟨g, 0, none⟩) xs.length cap
  own : ArrivalO w w0.heap.size w.heap.size v xs
  len : xs.length ≤ 12
  bd : ∀ s ∈ xs, BdA s
  cur : Cur w B b k
  gr : w0.grownBy w (some b)
theorem Ast.adl {w0 w : World} {B b k : Nat} {v : Value} {xs : List GArrival} (h : Ast w0 w B b k v xs) (hl : xs.length ≤ 12) : Adl w0 w B b k v xs :=
  ⟨h.form, (OwnK.of_row encArrival_len (by omega) h.row).mono (Nat.le_refl _) (Nat.le_refl _), hl, h.bd, h.cur, h.gr⟩
theorem Adl.below {w0 w w' : World} {B b k : Nat} {v : Value} {xs : List GArrival} (h : Adl w0 w B b k v xs) (hb : Below w.heap.size w w') : Adl w0 w' B b k v xs :=
  ⟨h.form, (h.own.below hb).mono (Nat.le_refl _) hb.size, h.len, h.bd, h.cur.keep (World.Below_grown hb) (by simp), grown_up h.gr (World.Below_grown hb) (by simp)⟩
theorem Adl.alloc {w0 w : World} {B b k : Nat} {v : Value} {xs : List GArrival} (h : Adl w0 w B b k v xs) (o : Obj) : Adl w0 (w.alloc o) B b k v xs := h.below ((Below.refl _ w).alloc (Nat.le_refl _) o)
theorem Adl.draw {w0 w w' : World} {B b k k' : Nat} {v : Value} {xs : List GArrival} (h : Adl w0 w B b k v xs) (hb : b < w0.heap.size) (hg : w.grownBy w' (some b)) (hc : Cur w' B b k') : Adl w0 w' B b k' v xs :=
  ⟨h.form, (h.own.kept hg.size fun i h1 _ h3 => hg.block i h3 (by intro e; cases e; omega)).mono (Nat.le_refl _) hg.size, h.len, h.bd, hc, h.gr.trans hg⟩
theorem Adl.mono {w0 w : World} {B b k k' : Nat} {v : Value} {xs : List GArrival} (h : Adl w0 w B b k v xs) (hk : k ≤ k') : Adl w0 w B b k' v xs := ⟨h.form, h.own, h.len, h.bd, h.cur.mono hk, h.gr⟩
theorem Adl.lst {w0 w : World} {B b k : Nat} {v : Value} {xs : List GArrival} (h : Adl w0 w B b k v xs) : ArrivalL w w.heap.size v xs := h.own.lst
theorem adl_sz {xs : List GArrival} (h : xs.length ≤ 12) : szsArrival xs ≤ 1048576 := by rw [szsArrival_split]; omega
theorem Ast.set1 {w0 w : World} {B b k g n cap : Nat} {xs : List GArrival} (h : Ast w0 w B b k (.slice (some ⟨g, 0, none⟩) n cap) xs) {p : Addr} (hp : w0.heap.size ≤ p.block) (hpg : p.block ≠ g) (hb : b < p.block) (u : Value) : Ast w0 (w.setCell p u) B b k (.slice (some ⟨g, 0, none⟩) n cap) xs :=
  ⟨h.form, h.row.kept (row := some p.block) ⟨rfl, rfl, rfl, by simp [World.setCell], fun i hi hne => Below.heap_setCell w p u i (fun e => hne (by rw [e]))⟩ (Or.inr (by intro e; simp only [Value.ownBlock, Option.some.injEq] at e; exact hpg e.symm)), h.bd, curSet h.cur hb u, setP h.gr hp u⟩
theorem Ast.set3 {w0 w : World} {B b k g n cap p : Nat} {xs : List GArrival} (h : Ast w0 w B b k (.slice (some ⟨g, 0, none⟩) n cap) xs) (hp : w0.heap.size ≤ p ∧ b < p) (hpg : p ≠ g) (x y z : Value) : Ast w0 (((w.setCell ⟨p, 0, none⟩ x).setCell ⟨p, 1, none⟩ y).setCell ⟨p, 2, none⟩ z) B b k (.slice (some ⟨g, 0, none⟩) n cap) xs :=
  ((h.set1 (p := ⟨p, 0, none⟩) hp.1 hpg hp.2 x).set1 (p := ⟨p, 1, none⟩) hp.1 hpg hp.2 y).set1 (p := ⟨p, 2, none⟩) hp.1 hpg hp.2 z
theorem sq_bdG {d : Int} (h0 : -1001 ≤ d) (h1 : d ≤ 1001) : 0 ≤ d * d ∧ d * d ≤ 1002001 := mul_bd2 (M := 1001) h0 h1
theorem specSqG (ax ay bx by1 : Int) (w : World) (h1 : 0 ≤ ax ∧ ax ≤ 1000) (h2 : 0 ≤ ay ∧ ay ≤ 1000) (h3 : -1 ≤ bx ∧ bx ≤ 1000) (h4 : 0 ≤ by1 ∧ by1 ≤ 1000) :
    Calls Try.prog 90 #[.int .i64 ax, .int .i64 ay, .int .i64 bx, .int .i64 by1] w fun e w' => ∃ r : Int, e = .returned (.int .i64 r) ∧ (0 ≤ r ∧ r ≤ 801600800) ∧ w' = w := by
  obtain ⟨a1, a2⟩ := sq_bdG (d := ax - bx) (by omega) (by omega)
  obtain ⟨b1, b2⟩ := sq_bdG (d := ay - by1) (by omega) (by omega)
  obtain ⟨p, hp⟩ : ∃ p, (ax - bx) * (ax - bx) = p := ⟨_, rfl⟩
  obtain ⟨q, hq⟩ : ∃ q, (ay - by1) * (ay - by1) = q := ⟨_, rfl⟩
  rw [hp] at a1 a2
  rw [hq] at b1 b2
  have s1 : wrap64 ((ax - bx) * (ax - bx)) = p := by rw [hp]; unfold wrap64; omega
  have s2 : wrap64 ((ay - by1) * (ay - by1)) = q := by rw [hq]; unfold wrap64; omega
  clear hp hq
  obtain ⟨h11, h12⟩ := h1
  obtain ⟨h21, h22⟩ := h2
  obtain ⟨h31, h32⟩ := h3
  obtain ⟨h41, h42⟩ := h4
  go_enter Try.func90, Try.ntmps90
  go_wp2
  go_ret
  exact ⟨400 * (p + q), rfl, by omega, rfl⟩
set_option maxRecDepth 100000 in
set_option maxHeartbeats 1000000 in
theorem specRootG (n : Int) (w : World) (h0 : 0 ≤ n) (h1 : n ≤ 801600800) :
    Calls Try.prog 94 #[.int .i64 n] w fun e w' => ∃ r : Int, e = .returned (.int .i64 r) ∧ (0 ≤ r ∧ r ≤ 40000) ∧ w' = w := by
  go_enter Try.func94, Try.ntmps94
  go_wp2
  go_loop [3, 4] (fun a b => ∃ l g : Nat, l ≤ g ∧ g ≤ 40000 ∧ a = .int .i64 l ∧ b = .int .i64 g) (fun a b => (intOf b).toNat - (intOf a).toNat)
  case atStart => exact ⟨0, 40000, by omega, by omega, rfl, rfl⟩
  case round =>
    obtain ⟨l, g, hlg, hg, rfl, rfl⟩ := hrel
    by_cases hlt : l < g
    case neg =>
      obtain rfl : l = g := by omega
      have hlt' : ¬ (l : Int) < (l : Int) := by omega
      go_wp2
      go_ret
      exact ⟨(l : Int), rfl, by omega, rfl⟩
    obtain ⟨m, hm⟩ : ∃ m : Nat, (l + g + 1) / 2 = m := ⟨_, rfl⟩
    have hm1 : l < m := by omega
    have hm2 : m ≤ g := by omega
    have hmi : ((l : Int) + g + 1).tdiv 2 = (m : Int) := by rw [Int.tdiv_eq_ediv_of_nonneg (by omega)]; omega
    have hlt' : (l : Int) < (g : Int) := by omega
    obtain ⟨m0, m3⟩ := mul_bd2 (a := (m : Int)) (M := 40000) (by omega) (by omega)
    obtain ⟨mm, hmm⟩ : ∃ x, (m : Int) * m = x := ⟨_, rfl⟩
    have s1 : wrap64 ((m : Int) * m) = mm := by rw [hmm] at m0 m3 ⊢; unfold wrap64; omega
    clear hmm m0 m3 hm
    by_cases hq : mm ≤ n
    · go_wp2
      go_round
      case rel => exact ⟨m, g, by omega, by omega, rfl, rfl⟩
      case measure => simp [intOf]; omega
    · go_wp2
      go_round
      case rel => exact ⟨l, m - 1, by omega, by omega, rfl, by go_num⟩
      case measure => simp [intOf]; omega
set_option maxRecDepth 100000 in
set_option maxHeartbeats 8000000 in
theorem cur_arrivals (w : World) (B b k : Nat) (h : Cur w B b k) (hk : k ≤ 500000) :
    Calls Try.prog 82 #[.pointer (some ⟨b, 0, none⟩)] w fun e w' => ∃ (v : Value) (xs : List GArrival), e = .returned v ∧ Adl w w' B b (k + 300) v xs := by
  obtain ⟨ti, hi, hz0, hz1, hz2⟩ := info_parts info_Arrival
  have hbw := h.lt
  have HS0 : Hid (Ast w (w.alloc (.cells #[] 28)) B b k (.slice (some ⟨w.heap.size, 0, none⟩) 0 0) []) := Lib.hid ⟨⟨_, _, rfl⟩, rowK_empty w (base := w.heap.size) 28 5 (Nat.le_refl _), by simp, h.alloc _, grown_alloc w _ _⟩
  have y0 : w.heap.size + 1 ≤ (w.alloc (.cells #[] 28)).heap.size := by simp
  clear h
  go_enter Try.func82, Try.ntmps82
  go_wp2_with fail
  refine (cur_quake _ B b _ HS0.out.cur (by omega)).mono ?_
  rintro e w1 ⟨oa, rfl, hoa, hc, hg⟩
  have HS1 := Lib.hid (HS0.out.draw hbw hg hc)
  have y1 := Nat.le_trans y0 hg.size
  clear HS0 hc hg
  go_wp2_with fail
  refine (cur_quake _ B b _ HS1.out.cur (by omega)).mono ?_
  rintro e w2 ⟨ob, rfl, hob, hc, hg⟩
  have HS2 := Lib.hid (HS1.out.draw hbw hg hc)
  have y2 := Nat.le_trans y1 hg.size
  clear HS1 hc hg
  have bA := (Bx.new w2 [.int .i64 oa.pX, .int .i64 oa.pY, .int .i64 oa.pTick] 30).alloc (.cells #[.int .i64 ob.pX, .int .i64 ob.pY, .int .i64 ob.pTick] 30)
  have bB := Bx.new1 w2 (.cells #[.int .i64 oa.pX, .int .i64 oa.pY, .int .i64 oa.pTick] 30) [.int .i64 ob.pX, .int .i64 ob.pY, .int .i64 ob.pTick] 30
  have HS3 := Lib.hid ((HS2.out.alloc (.cells #[.int .i64 oa.pX, .int .i64 oa.pY, .int .i64 oa.pTick] 30)).alloc (.cells #[.int .i64 ob.pX, .int .i64 ob.pY, .int .i64 ob.pTick] 30))
  clear HS2
  have zA : w2.heap.size < ((w2.alloc (.cells #[.int .i64 oa.pX, .int .i64 oa.pY, .int .i64 oa.pTick] 30)).alloc (.cells #[.int .i64 ob.pX, .int .i64 ob.pY, .int .i64 ob.pTick] 30)).heap.size := by simp; omega
  go_wp2
  go_loopw [3, 6] (fun o n wr => ∃ (m : Nat) (xs : List GArrival), n = .int .i64 m ∧ 1 ≤ m ∧ m ≤ 7 ∧ xs.length + 1 ≤ m ∧ Ast w wr B b (k + 24 + 16 * (m - 1)) o xs ∧ o.ownBlock ≠ some w2.heap.size ∧ o.ownBlock ≠ some (w2.heap.size + 1) ∧ Bx wr w2.heap.size [.int .i64 oa.pX, .int .i64 oa.pY, .int .i64 oa.pTick] ∧ Bx wr (w2.heap.size + 1) [.int .i64 ob.pX, .int .i64 ob.pY, .int .i64 ob.pTick])
    (fun _ n _ => 7 - (intOf n).toNat)
  case atStart => exact ⟨1, [], rfl, by omega, by omega, by simp, HS3.out.mono (by omega), (fun e => by have h9 : w.heap.size = w2.heap.size := Option.some.inj e; omega), (fun e => by have h9 : w.heap.size = w2.heap.size + 1 := Option.some.inj e; omega), bA, bB⟩
  case round =>
    clear HS3 bA bB zA
    obtain ⟨m, xs, rfl, hm1, hm7, hxl, hS, hnA, hnB, bA, bB⟩ := hrel
    obtain ⟨g, cap, rfl⟩ := hS.form
    have HS3 := Lib.hid hS
    clear hS
    by_cases hm : m < 7
    case neg =>
      obtain rfl : m = 7 := by omega
      have hx6 : xs.length ≤ 6 := by omega
      clear hnA hnB bA bB hm hm1 hm7 hxl
      go_wp2_with fail
      refine (cur_pick _ B b _ 32 HS3.out.cur (by omega) (by omega) (by omega)).mono ?_
      rintro e w4 ⟨r, rfl, hr0, hr1, hc, hg⟩
      have HS4 := Lib.hid ((HS3.out.draw hbw hg hc).mono (k' := k + 150) (by omega))
      clear HS3 hc hg
      by_cases h0 : r = 0
      case pos =>
        have g0 : (r == 0) = true := by simp [h0]
        clear h0
        have z5 := HS4.out.cur.lt
        go_wp2_with fail
        refine (cur_among _ B b _ (HS4.out.cur.alloc _) (by omega) _ _ (ints_lit w4 b z5 3 4 [0, 9, 99, 100]) (by simp) (by simp)).mono ?_
        rintro e w5 ⟨i, rfl, hx, hc, hg⟩
        have hbi : 0 ≤ i ∧ i ≤ 1000 := by
          revert i
          decide
        have HS5 := Lib.hid ((HS4.out.alloc _).draw hbw hg hc)
        clear HS4 hc hg hx z5 
        have z6 := HS5.out.cur.lt
        go_wp2_with fail
        refine (cur_among _ B b _ (HS5.out.cur.alloc _) (by omega) _ _ (ints_lit w5 b z6 3 2 [0, 1000]) (by simp) (by simp)).mono ?_
        rintro e w6 ⟨x, rfl, hx, hc, hg⟩
        have hbx : 0 ≤ x ∧ x ≤ 1000 := by
          revert x
          decide
        have HS6 := Lib.hid ((HS5.out.alloc _).draw hbw hg hc)
        clear HS5 hc hg hx z6 
        have z7 := HS6.out.cur.lt
        go_wp2_with fail
        refine (cur_among _ B b _ (HS6.out.cur.alloc _) (by omega) _ _ (ints_lit w6 b z7 3 2 [0, 1000001]) (by simp) (by simp)).mono ?_
        rintro e w7 ⟨tk, rfl, hx, hc, hg⟩
        have hbtk : 0 ≤ tk ∧ tk ≤ 1000001 := by
          revert tk
          decide
        have HS7 := Lib.hid ((HS6.out.alloc _).draw hbw hg hc)
        clear HS6 hc hg hx z7 
        have z8 := HS7.out.cur.lt
        go_wp2_with fail
        refine (cur_among _ B b _ (HS7.out.cur.alloc _) (by omega) _ _ (ints_lit w7 b z8 3 2 [0, 1001]) (by simp) (by simp)).mono ?_
        rintro e w8 ⟨er, rfl, hx, hc, hg⟩
        have hber : 0 ≤ er ∧ er ≤ 1001 := by
          revert er
          decide
        have HS8 := Lib.hid ((HS7.out.alloc _).draw hbw hg hc)
        clear HS7 hc hg hx z8 
        have hbs : BdA (⟨i, x, 0, tk, er⟩ : GArrival) := by unfold BdA; simp only; omega
        have HR5 := Lib.hid (HS8.out.row.alloc (.cells (encArrival (⟨i, x, 0, tk, er⟩ : GArrival)).toArray 28))
        have HSRC := Lib.hid (srcK_box (Bx.new w8 (encArrival (⟨i, x, 0, tk, er⟩ : GArrival)) 28) (fun u hu => by have := oneArrival [(⟨i, x, 0, tk, er⟩ : GArrival)] u (by simpa using hu); exact this))
        have hz9 := HS8.out.gr.size
        go_wp2_with (at_builtin; refine wpList_append_srcK _ rfl _ _ 37 rfl w.heap.size 28 ti _ 5 40 Try.underlying37 hi hz0 hz1 hz2 rfl (by decide) (.slice (some ⟨g, 0, none⟩) xs.length cap) xs.length (xs.flatMap encArrival) rfl HR5.out _ 1 (encArrival (⟨i, x, 0, tk, er⟩ : GArrival)) rfl HSRC.out (by unfold maxLen; omega) (by omega) (by simp; omega) ?_; intro v5 w9 hr5 hg5 _)
        have HS9 := Lib.hid (ast_snoc hbw HS8.out hbs hr5 hg5)
        clear hr5 hg5 HR5 HSRC HS8 hz9 hbs
        obtain ⟨g5, cap5, rfl⟩ := HS9.out.form
        have hl5 : (xs ++ [(⟨i, x, 0, tk, er⟩ : GArrival)]).length = xs.length + 1 := by simp
        generalize xs ++ [(⟨i, x, 0, tk, er⟩ : GArrival)] = ys at *
        have HL5 := Lib.hid hl5
        clear hl5
        go_wp2
        go_ret
        exact ⟨_, ys, rfl, (HS9.out.adl (by have := HL5.out; omega)).mono (by omega)⟩
      case neg =>
        have g0 : (r == 0) = false := by simp [h0]
        by_cases h1 : r = 1
        case neg =>
          have g1 : (r == 1) = false := by simp [h1]
          clear h0 h1
          go_wp2
          go_ret
          exact ⟨_, xs, rfl, (HS4.out.adl (by omega)).mono (by omega)⟩
        case pos =>
          have g1 : (r == 1) = true := by simp [h1]
          clear h0 h1
          go_wp2
          go_loopw [3] (fun o wr => ∃ (xs : List GArrival), xs.length ≤ 9 ∧ Ast w wr B b (k + 150 + 2 * xs.length) o xs) (fun o _ => 10 - (match o with | .slice _ n _ => n | _ => 0))
          case atStart => exact ⟨xs, by omega, HS4.out.mono (by omega)⟩
          case round =>
            clear HS4
            clear hx6
            obtain ⟨ys, hl9, hS⟩ := hrel
            obtain ⟨g, cap, rfl⟩ := hS.form
            have HS5 := Lib.hid hS
            clear hS
            go_wp2_with fail
            refine (cur_pick _ B b _ 2 HS5.out.cur (by omega) (by omega) (by omega)).mono ?_
            rintro e w5 ⟨q, rfl, hq0, hq1, hc, hg⟩
            have HS6 := Lib.hid (HS5.out.draw hbw hg hc)
            clear HS5 hc hg
            have s1 : IntKind.i64.wrap (8 + q) = 8 + q := IntWalk.i64_in _ (by omega)
            by_cases hlt : (ys.length : Int) < 8 + q
            case neg =>
              go_wp2
              go_ret
              exact ⟨_, ys, rfl, (HS6.out.adl (by omega)).mono (by omega)⟩
            have hl7 : ys.length ≤ 8 := by omega
            have hbs : BdA (⟨70 + (ys.length : Int), 5, 5, 400, 0⟩ : GArrival) := by unfold BdA; simp only; omega
            have HR5 := Lib.hid (HS6.out.row.alloc (.cells (encArrival (⟨70 + (ys.length : Int), 5, 5, 400, 0⟩ : GArrival)).toArray 28))
            have HSRC := Lib.hid (srcK_box (Bx.new w5 (encArrival (⟨70 + (ys.length : Int), 5, 5, 400, 0⟩ : GArrival)) 28) (fun u hu => by have := oneArrival [(⟨70 + (ys.length : Int), 5, 5, 400, 0⟩ : GArrival)] u (by simpa using hu); exact this))
            have hz9 := HS6.out.gr.size
            go_wp2_with (at_builtin; refine wpList_append_srcK _ rfl _ _ 37 rfl w.heap.size 28 ti _ 5 40 Try.underlying37 hi hz0 hz1 hz2 rfl (by decide) (.slice (some ⟨g, 0, none⟩) ys.length cap) ys.length (ys.flatMap encArrival) rfl HR5.out _ 1 (encArrival (⟨70 + (ys.length : Int), 5, 5, 400, 0⟩ : GArrival)) rfl HSRC.out (by unfold maxLen; omega) (by omega) (by simp; omega) ?_; intro v5 w7 hr5 hg5 _)
            have HS7 := Lib.hid (ast_snoc hbw HS6.out hbs hr5 hg5)
            clear hr5 hg5 HR5 HSRC HS6 hz9 hbs
            obtain ⟨g5, cap5, rfl⟩ := HS7.out.form
            have hl5 : (ys ++ [(⟨70 + (ys.length : Int), 5, 5, 400, 0⟩ : GArrival)]).length = ys.length + 1 := by simp
            generalize ys ++ [(⟨70 + (ys.length : Int), 5, 5, 400, 0⟩ : GArrival)] = us at *
            have HL5 := Lib.hid hl5
            clear hl5
            go_wp2
            go_roundw
            case rel => exact ⟨us, by have := HL5.out; omega, HS7.out.mono (by have := HL5.out; omega)⟩
            case measure => have := HL5.out; simp; omega
    have hm2 : (m : Int) < 7 := by omega
    go_wp2_with fail
    refine (cur_one _ B b _ 3 HS3.out.cur (by omega) (by omega) (by omega)).mono ?_
    rintro e w4 ⟨yes, rfl, hc, hg⟩
    have HS4 := Lib.hid (HS3.out.draw hbw hg hc)
    have bA4 := bA.grown hg (by intro e; cases e; omega)
    have bB4 := bB.grown hg (by intro e; cases e; omega)
    clear HS3 hc hg bA bB
    cases yes with
    | true =>
      go_wp2
      go_roundw
      case rel => exact ⟨m + 1, xs, by go_num, by omega, by omega, by omega, HS4.out.mono (by omega), hnA, hnB, bA4, bB4⟩
      case measure => simp [intOf]; omega
    | false =>
    have a0 := bA4.2 0 _ rfl
    have a1 := bA4.2 1 _ rfl
    have a2 := bA4.2 2 _ rfl
    have bO5 := Bx.new w4 [.int .i64 oa.pX, .int .i64 oa.pY, .int .i64 oa.pTick] 30
    have bA5 := bA4.alloc (.cells #[.int .i64 oa.pX, .int .i64 oa.pY, .int .i64 oa.pTick] 30)
    have bB5 := bB4.alloc (.cells #[.int .i64 oa.pX, .int .i64 oa.pY, .int .i64 oa.pTick] 30)
    have HS5 := Lib.hid (HS4.out.alloc (.cells #[.int .i64 oa.pX, .int .i64 oa.pY, .int .i64 oa.pTick] 30))
    have y4 : w2.heap.size + 1 < w4.heap.size := bB4.1.1
    have hrg := (HS4.out.row.lt g rfl).2
    clear HS4 bA4 bB4
    go_wp2_with fail
    refine (cur_one _ B b _ 3 HS5.out.cur (by omega) (by omega) (by omega)).mono ?_
    rintro e w5 ⟨yes, rfl, hc, hg⟩
    have HS6 := Lib.hid (HS5.out.draw hbw hg hc)
    have bA6 := bA5.grown hg (by intro e; cases e; omega)
    have bB6 := bB5.grown hg (by intro e; cases e; omega)
    have bO6 := bO5.grown hg (by intro e; cases e; omega)
    have y5 : w4.heap.size < w5.heap.size := bO6.1.1
    clear HS5 hc hg bA5 bB5 bO5 a0 a1 a2
    go_upto_if 22 with fail
    go_cut [7] from 14 to 60 (fun v wx => ∃ o2 : GOrigin, v = .pointer (some ⟨w4.heap.size, 0, none⟩) ∧ BdO o2 ∧ Ast w wx B b (k + 4 + 24 + 16 * (m - 1)) (.slice (some ⟨g, 0, none⟩) xs.length cap) xs ∧ Bx wx w2.heap.size [.int .i64 oa.pX, .int .i64 oa.pY, .int .i64 oa.pTick] ∧ Bx wx (w2.heap.size + 1) [.int .i64 ob.pX, .int .i64 ob.pY, .int .i64 ob.pTick] ∧ Bx wx w4.heap.size [.int .i64 o2.pX, .int .i64 o2.pY, .int .i64 o2.pTick])
    case first =>
      cases yes with
      | false =>
        go_wp2
        go_meet
        exact ⟨oa, rfl, hoa, HS6.out.mono (by omega), bA6, bB6, bO6⟩
      | true =>
        have b0 := bB6.2 0 _ rfl
        have b1 := bB6.2 1 _ rfl
        have b2 := bB6.2 2 _ rfl
        have q0 := bO6.2 0 _ rfl
        have q1 := bO6.2 1 _ rfl
        have q2 := bO6.2 2 _ rfl
        have qf := bO6.1.2
        have HS7 := Lib.hid (HS6.out.set3 (p := w4.heap.size) (by have := HS6.out.gr.size; omega) (by omega) (.int .i64 ob.pX) (.int .i64 ob.pY) (.int .i64 ob.pTick))
        have bA7 := bA6.other3 (g := w4.heap.size) (by omega) (.int .i64 ob.pX) (.int .i64 ob.pY) (.int .i64 ob.pTick)
        have bB7 := bB6.other3 (g := w4.heap.size) (by omega) (.int .i64 ob.pX) (.int .i64 ob.pY) (.int .i64 ob.pTick)
        have bO7 := bO6.put3 (.int .i64 ob.pX) (.int .i64 ob.pY) (.int .i64 ob.pTick)
        go_wp2
        go_meet
        exact ⟨ob, rfl, hob, HS7.out.mono (by omega), bA7, bB7, bO7⟩
    case rest =>
      obtain ⟨o2, rfl, hbo, hS7, bA7, bB7, bO7⟩ := hcut
      generalize wc = w6 at *
      clear HS6 bA6 bB6 bO6
      have HS7 := Lib.hid hS7
      clear hS7
      have y6 : w4.heap.size < w6.heap.size := bO7.1.1
      go_upto_region 10 with fail
      have z8 := HS7.out.cur.lt
      go_wp2_with fail
      refine (cur_among _ B b _ (HS7.out.cur.alloc _) (by omega) _ _ (ints_lit w6 b z8 3 6 [0, 60, 100, 250, 400, 900]) (by simp) (by simp)).mono ?_
      rintro e w7 ⟨x, rfl, hx, hc, hg⟩
      have hbx : 0 ≤ x ∧ x ≤ 1000 := by
        revert x
        decide
      have HS8 := Lib.hid ((HS7.out.alloc _).draw hbw hg hc)
      have bA8 := (bA7.alloc (.cells #[.int .i64 0, .int .i64 60, .int .i64 100, .int .i64 250, .int .i64 400, .int .i64 900] 3)).grown hg (by intro e; cases e; omega)
      have bB8 := (bB7.alloc (.cells #[.int .i64 0, .int .i64 60, .int .i64 100, .int .i64 250, .int .i64 400, .int .i64 900] 3)).grown hg (by intro e; cases e; omega)
      have bO8 := (bO7.alloc (.cells #[.int .i64 0, .int .i64 60, .int .i64 100, .int .i64 250, .int .i64 400, .int .i64 900] 3)).grown hg (by intro e; cases e; omega)
      clear HS7 hc hg hx z8 bA7 bB7 bO7
      have z9 := HS8.out.cur.lt
      go_wp2_with fail
      refine (cur_among _ B b _ (HS8.out.cur.alloc _) (by omega) _ _ (ints_lit w7 b z9 3 4 [0, 80, 200, 500]) (by simp) (by simp)).mono ?_
      rintro e w8 ⟨y, rfl, hx, hc, hg⟩
      have hby : 0 ≤ y ∧ y ≤ 1000 := by
        revert y
        decide
      have HS9 := Lib.hid ((HS8.out.alloc _).draw hbw hg hc)
      have bA9 := (bA8.alloc (.cells #[.int .i64 0, .int .i64 80, .int .i64 200, .int .i64 500] 3)).grown hg (by intro e; cases e; omega)
      have bB9 := (bB8.alloc (.cells #[.int .i64 0, .int .i64 80, .int .i64 200, .int .i64 500] 3)).grown hg (by intro e; cases e; omega)
      have bO9 := (bO8.alloc (.cells #[.int .i64 0, .int .i64 80, .int .i64 200, .int .i64 500] 3)).grown hg (by intro e; cases e; omega)
      clear HS8 hc hg hx z9 bA8 bB8 bO8
      have z10 := HS9.out.cur.lt
      go_wp2_with fail
      refine (cur_among _ B b _ (HS9.out.cur.alloc _) (by omega) _ _ (ints_lit w8 b z10 3 5 [0, 1, 20, 200, 1000]) (by simp) (by simp)).mono ?_
      rintro e w9 ⟨er, rfl, hx, hc, hg⟩
      have hber : 0 ≤ er ∧ er ≤ 1000 := by
        revert er
        decide
      have HS10 := Lib.hid ((HS9.out.alloc _).draw hbw hg hc)
      have bA10 := (bA9.alloc (.cells #[.int .i64 0, .int .i64 1, .int .i64 20, .int .i64 200, .int .i64 1000] 3)).grown hg (by intro e; cases e; omega)
      have bB10 := (bB9.alloc (.cells #[.int .i64 0, .int .i64 1, .int .i64 20, .int .i64 200, .int .i64 1000] 3)).grown hg (by intro e; cases e; omega)
      have bO10 := (bO9.alloc (.cells #[.int .i64 0, .int .i64 1, .int .i64 20, .int .i64 200, .int .i64 1000] 3)).grown hg (by intro e; cases e; omega)
      clear HS9 hc hg hx z10 bA9 bB9 bO9
      have hz9 := HS10.out.gr.size
      have bX := Bx.new w9 [.int .i64 (9 * (m : Int)), .int .i64 x, .int .i64 y, .int .i64 0, .int .i64 er] 28
      have bA := bA10.alloc (.cells #[.int .i64 (9 * (m : Int)), .int .i64 x, .int .i64 y, .int .i64 0, .int .i64 er] 28)
      have bB := bB10.alloc (.cells #[.int .i64 (9 * (m : Int)), .int .i64 x, .int .i64 y, .int .i64 0, .int .i64 er] 28)
      have bO := bO10.alloc (.cells #[.int .i64 (9 * (m : Int)), .int .i64 x, .int .i64 y, .int .i64 0, .int .i64 er] 28)
      have HS := Lib.hid (HS10.out.alloc (.cells #[.int .i64 (9 * (m : Int)), .int .i64 x, .int .i64 y, .int .i64 0, .int .i64 er] 28))
      have y9 : w4.heap.size < w9.heap.size := bO10.1.1
      have hg9 : g < w9.heap.size := (HS10.out.row.lt g rfl).2
      clear HS10 bA10 bB10 bO10
      obtain ⟨W, hW⟩ : ∃ W, w9.alloc (.cells #[.int .i64 (9 * (m : Int)), .int .i64 x, .int .i64 y, .int .i64 0, .int .i64 er] 28) = W := ⟨_, rfl⟩
      go_upto_region 11 with fail
      rw [hW] at bX bA bB bO HS
      have hgx : w9.heap.size < W.heap.size := bX.1.1
      clear hW
      go_cut [8] from 14 to 60 (fun v wx => ∃ tk : Int, v = .pointer (some ⟨w9.heap.size, 0, none⟩) ∧ (-30 ≤ tk ∧ tk ≤ 1040100) ∧ Ast w wx B b (k + 12 + 24 + 16 * (m - 1)) (.slice (some ⟨g, 0, none⟩) xs.length cap) xs ∧ Bx wx w2.heap.size [.int .i64 oa.pX, .int .i64 oa.pY, .int .i64 oa.pTick] ∧ Bx wx (w2.heap.size + 1) [.int .i64 ob.pX, .int .i64 ob.pY, .int .i64 ob.pTick] ∧ Bx wx w9.heap.size [.int .i64 (9 * (m : Int)), .int .i64 x, .int .i64 y, .int .i64 tk, .int .i64 er])
      case' first =>
       go_wp2_with fail
       obtain ⟨⟨ox0, ox1⟩, ⟨oy0, oy1⟩, ⟨ot0, ot1⟩⟩ := id hbo
       obtain ⟨mm, hmm⟩ : ∃ mm, max 0 o2.pTick = mm := ⟨_, rfl⟩
       have hm0 : 0 ≤ mm ∧ mm ≤ 1000001 := by omega
       have CM := Lib.hid (fun W => mostF 0 o2.pTick mm W hmm)
       have CQ := Lib.hid (fun W => specSqG x y o2.pX o2.pY W (by omega) (by omega) (by omega) (by omega))
       clear hmm
       have bXd : Bx W.drew w9.heap.size [.int .i64 (9 * (m : Int)), .int .i64 x, .int .i64 y, .int .i64 0, .int .i64 er] := bX
       have bOd : Bx W.drew w4.heap.size [.int .i64 o2.pX, .int .i64 o2.pY, .int .i64 o2.pTick] := bO
       have bXa : Bx (W.alloc (.cells #[.int .i64 0, .int .i64 0, .int .i64 1, .int .i64 15, .int .i64 (-30)] 3)).drew w9.heap.size [.int .i64 (9 * (m : Int)), .int .i64 x, .int .i64 y, .int .i64 0, .int .i64 er] := bX.alloc _
       have bOa : Bx (W.alloc (.cells #[.int .i64 0, .int .i64 0, .int .i64 1, .int .i64 15, .int .i64 (-30)] 3)).drew w4.heap.size [.int .i64 o2.pX, .int .i64 o2.pY, .int .i64 o2.pTick] := bO.alloc _
       have bAa : Bx (W.alloc (.cells #[.int .i64 0, .int .i64 0, .int .i64 1, .int .i64 15, .int .i64 (-30)] 3)).drew w2.heap.size [.int .i64 oa.pX, .int .i64 oa.pY, .int .i64 oa.pTick] := bA.alloc _
       have bBa : Bx (W.alloc (.cells #[.int .i64 0, .int .i64 0, .int .i64 1, .int .i64 15, .int .i64 (-30)] 3)).drew (w2.heap.size + 1) [.int .i64 ob.pX, .int .i64 ob.pY, .int .i64 ob.pTick] := bB.alloc _
       have HSa : Hid (Ast w (W.alloc (.cells #[.int .i64 0, .int .i64 0, .int .i64 1, .int .i64 15, .int .i64 (-30)] 3)).drew B b (k + 4 + 24 + 16 * (m - 1) + 2 + 2 + 2) (.slice (some ⟨g, 0, none⟩) xs.length cap) xs) := Lib.hid ((HS.out.alloc _).below (Below.refl _ _).drew)
       have zW := HS.out.cur.lt
       have OI : Hid (OfInts (W.alloc (.cells #[.int .i64 0, .int .i64 0, .int .i64 1, .int .i64 15, .int .i64 (-30)] 3)).drew b (.slice (some ⟨W.heap.size, 0, none⟩) 5 5) [0, 0, 1, 15, -30]) := Lib.hid (ints_lit W b zW 3 5 [0, 0, 1, 15, -30])
       have d0 := bOd.2 0 _ rfl
       have d1 := bOd.2 1 _ rfl
       have d2 := bOd.2 2 _ rfl
       have d3 := bXd.2 1 _ rfl
       have d4 := bXd.2 2 _ rfl
       have e0 := bOa.2 0 _ rfl
       have e1 := bOa.2 1 _ rfl
       have e2 := bOa.2 2 _ rfl
       have e3 := bXa.2 1 _ rfl
       have e4 := bXa.2 2 _ rfl
       clear bA bB bO bX HS bOd bXd
       go_region_held3 (fun w' => w'.cell? ⟨w4.heap.size, 0, none⟩ = some (.int .i64 o2.pX) ∧ w'.cell? ⟨w4.heap.size, 1, none⟩ = some (.int .i64 o2.pY) ∧ w'.cell? ⟨w4.heap.size, 2, none⟩ = some (.int .i64 o2.pTick) ∧ w'.cell? ⟨w9.heap.size, 1, none⟩ = some (.int .i64 x) ∧ w'.cell? ⟨w9.heap.size, 2, none⟩ = some (.int .i64 y))
         (first
           | with_reducible exact ⟨d0, d1, d2, d3, d4⟩
           | with_reducible exact ⟨e0, e1, e2, e3, e4⟩
           | with_reducible exact ⟨f0, f1, f2, f3, f4⟩
           | exact ⟨bOz.2 0 _ rfl, bOz.2 1 _ rfl, bOz.2 2 _ rfl, bXz.2 1 _ rfl, bXz.2 2 _ rfl⟩)
         (first
           | (go_at_call 95; (with_reducible refine (CM.out _).mono ?_); rintro e wq ⟨rfl, q9⟩; obtain rfl := q9)
           | (go_at_call 90; (with_reducible refine (CQ.out _).mono ?_); rintro e wq ⟨rr, rfl, ⟨hr0, hr1⟩, q9⟩; obtain rfl := q9)
           | (go_at_call 94; (with_reducible refine (specRootG _ _ hr0 hr1).mono ?_); rintro e wq ⟨rt, rfl, ⟨ht0, ht1⟩, q9⟩; obtain rfl := q9; have s49 : IntKind.i64.wrap (mm + rt) = mm + rt := IntWalk.i64_in _ (by omega))
           | (go_at_call 84; (with_reducible refine (cur_among _ B b _ HSa.out.cur (by omega) _ _ OI.out (by simp) (by simp)).mono ?_); rintro e wa ⟨am, rfl, hx, hc, hg⟩; have hbam : -30 ≤ am ∧ am ≤ 15 := (by revert am; decide); have s53 : IntKind.i64.wrap (mm + rt + am) = mm + rt + am := IntWalk.i64_in _ (by omega); have HSb := Lib.hid (HSa.out.draw hbw hg hc); have bXb := bXa.grown hg (by intro e; cases e; omega); have bOb := bOa.grown hg (by intro e; cases e; omega); have bAb := bAa.grown hg (by intro e; cases e; omega); have bBb := bBa.grown hg (by intro e; cases e; omega); have f0 := bOb.2 0 _ rfl; have f1 := bOb.2 1 _ rfl; have f2 := bOb.2 2 _ rfl; have f3 := bXb.2 1 _ rfl; have f4 := bXb.2 2 _ rfl; have g3 := bXb.2 3 _ rfl; have gf := bXb.1.2; have bXz := bXb.setAt 3 (by simp) (.int .i64 (mm + rt + am)); have bOz := bOb.setOther (p := ⟨w9.heap.size, 3, none⟩) (by simp; omega) (.int .i64 (mm + rt + am))))
       all_goals (
         have HSz := HSb.out.set1 (p := ⟨w9.heap.size, 3, none⟩) (by show w.heap.size ≤ w9.heap.size; omega) (by show w9.heap.size ≠ g; omega) (by show b < w9.heap.size; omega) (.int .i64 (mm + rt + am))
         have bAz := bAb.setOther (p := ⟨w9.heap.size, 3, none⟩) (by show w9.heap.size ≠ w2.heap.size; omega) (.int .i64 (mm + rt + am))
         have bBz := bBb.setOther (p := ⟨w9.heap.size, 3, none⟩) (by show w9.heap.size ≠ w2.heap.size + 1; omega) (.int .i64 (mm + rt + am))
         go_wp2
         go_meet
         exact ⟨mm + rt + am, rfl, by omega, HSz.mono (by omega), bAz, bBz, bXz⟩)
      case rest =>
       obtain ⟨tk, rfl, ⟨htk0, htk1⟩, hS, bA, bB, bX⟩ := hcut
       generalize wc = w11 at *
       clear bO HS
       have HS := Lib.hid hS
       clear hS
       obtain ⟨t1, ht1⟩ : ∃ t1, min 1000000 tk = t1 := ⟨_, rfl⟩
       obtain ⟨t2, ht2⟩ : ∃ t2, max 0 t1 = t2 := ⟨_, rfl⟩
       have ht3 : 0 ≤ t2 ∧ t2 ≤ 1000000 := by omega
       have CL := Lib.hid (fun W => leastF 1000000 tk t1 W ht1)
       have CM := Lib.hid (fun W => mostF 0 t1 t2 W ht2)
       clear ht1 ht2
       have x3 := bX.2 3 _ rfl
       have xf := bX.1.2
       have y11 : w9.heap.size < w11.heap.size := bX.1.1
       go_upto_region 12 with fail
       go_wp2_with fail
       refine (CL.out _).mono ?_
       rintro e wq ⟨rfl, q9⟩
       obtain rfl : w11 = wq := q9.symm
       go_wp2_with fail
       refine (CM.out _).mono ?_
       rintro e wq ⟨rfl, q9⟩
       obtain rfl : w11 = wq := q9.symm
       have HS2 := Lib.hid (HS.out.set1 (p := ⟨w9.heap.size, 3, none⟩) (by show w.heap.size ≤ w9.heap.size; omega) (by show w9.heap.size ≠ g; omega) (by show b < w9.heap.size; omega) (.int .i64 t2))
       have bA2 := bA.setOther (p := ⟨w9.heap.size, 3, none⟩) (by show w9.heap.size ≠ w2.heap.size; omega) (.int .i64 t2)
       have bB2 := bB.setOther (p := ⟨w9.heap.size, 3, none⟩) (by show w9.heap.size ≠ w2.heap.size + 1; omega) (.int .i64 t2)
       have bX2 := bX.setAt 3 (by simp) (.int .i64 t2)
       obtain ⟨W2, hW2⟩ : ∃ W2, w11.setCell ⟨w9.heap.size, 3, none⟩ (.int .i64 t2) = W2 := ⟨_, rfl⟩
       rw [hW2] at HS2 bA2 bB2 bX2
       clear HS bA bB bX CL CM
       have q0 := bX2.2 0 _ rfl
       have q1 := bX2.2 1 _ rfl
       have q2 := bX2.2 2 _ rfl
       have q3 := bX2.2 3 _ rfl
       have q4 := bX2.2 4 _ rfl
       have hbs : BdA (⟨9 * (m : Int), x, y, t2, er⟩ : GArrival) := by unfold BdA; simp only; omega
       have HR5 := Lib.hid (HS2.out.row.alloc (.cells (encArrival (⟨9 * (m : Int), x, y, t2, er⟩ : GArrival)).toArray 28))
       have HSRC := Lib.hid (srcK_box (Bx.new W2 (encArrival (⟨9 * (m : Int), x, y, t2, er⟩ : GArrival)) 28) (fun u hu => by have := oneArrival [(⟨9 * (m : Int), x, y, t2, er⟩ : GArrival)] u (by simpa using hu); exact this))
       have hz8 := HS2.out.gr.size
       have bA3 := bA2.alloc (.cells (encArrival (⟨9 * (m : Int), x, y, t2, er⟩ : GArrival)).toArray 28)
       have bB3 := bB2.alloc (.cells (encArrival (⟨9 * (m : Int), x, y, t2, er⟩ : GArrival)).toArray 28)
       go_wp2_with (
         at_builtin
         refine wpList_append_srcK _ rfl _ _ 37 rfl w.heap.size 28 ti _ 5 40 Try.underlying37 hi hz0 hz1 hz2 rfl (by decide) (.slice (some ⟨g, 0, none⟩) xs.length cap) xs.length (xs.flatMap encArrival) rfl HR5.out _ 1 (encArrival (⟨9 * (m : Int), x, y, t2, er⟩ : GArrival)) rfl HSRC.out (by unfold maxLen; omega) (by omega) (by simp; omega) ?_
         intro v5 w12 hr5 hg5 hat5)
       have HS5 := Lib.hid (ast_snoc hbw HS2.out hbs hr5 hg5)
       have bA4 := bA3.grown hg5 (fun e => hnA e.symm)
       have bB4 := bB3.grown hg5 (fun e => hnB e.symm)
       have hsz3 : (W2.alloc (.cells (encArrival (⟨9 * (m : Int), x, y, t2, er⟩ : GArrival)).toArray 28)).heap.size = W2.heap.size + 1 := by simp
       have hWA := bA2.1.1
       have hWB := bB2.1.1
       have hnA2 := own_neS hat5 hnA (by simp; omega)
       have hnB2 := own_neS hat5 hnB (by simp; omega)
       clear hr5 hg5 HR5 HSRC HS2 hz8 hbs hat5 bA2 bB2 bA3 bB3 bX2 q0 q1 q2 q3 q4
       obtain ⟨g5, cap5, rfl⟩ := HS5.out.form
       have hl5 : (xs ++ [(⟨9 * (m : Int), x, y, t2, er⟩ : GArrival)]).length = xs.length + 1 := by simp
       generalize xs ++ [(⟨9 * (m : Int), x, y, t2, er⟩ : GArrival)] = ys at *
       have HL5 := Lib.hid hl5
       clear hl5
       go_wp2
       go_roundw
       case rel => exact ⟨m + 1, ys, by go_num, by omega, by omega, by have := HL5.out; omega, HS5.out.mono (by omega), hnA2, hnB2, bA4, bB4⟩
       case measure => simp [intOf]; omega
end Go.Proofs.Ytoogofceoinniab
