/- The specification's draw of swings. -/
import Derived.Test.YtdiedfpfhbdamaaAoA
import Derived.Deep.CutBlock
import Derived.Deep.CutRange
import Derived.Deep.DeepCutAuto
namespace Go.Proofs.Ytdiedfpfhbdamaa
open Go.ChangeShapes Go.WideShapes Go.ChangeAt Go.RowKit Go.ChangeMaps
set_option linter.unusedSimpArgs false
set_option linter.unusedVariables false
set_option linter.unusedSimpArgs false
set_option linter.unusedVariables false

/-- A list of arrivals that grows beside the cursor. -/
structure Wst (w0 w : World) (B b k : Nat) (v : Value) (xs : List GSwing) : Prop where
  form : ∃ g cap, v = .slice (some ⟨g, 0, none⟩) xs.length cap
  row : w.ownsRow w0.heap.size 63 4 v xs.length (xs.flatMap encSwing)
  bd : ∀ s ∈ xs, BdW s
  cur : Cur w B b k
  gr : w0.grownBy w (some b)
theorem Wst.below {w0 w w' : World} {B b k : Nat} {v : Value} {xs : List GSwing} (h : Wst w0 w B b k v xs) (hb : Below w.heap.size w w') : Wst w0 w' B b k v xs :=
  ⟨h.form, row_below h.row hb, h.bd, h.cur.keep (World.Below_grown hb) (by simp), grown_up h.gr (World.Below_grown hb) (by simp)⟩
theorem Wst.alloc {w0 w : World} {B b k : Nat} {v : Value} {xs : List GSwing} (h : Wst w0 w B b k v xs) (o : Obj) : Wst w0 (w.alloc o) B b k v xs := h.below ((Below.refl _ w).alloc (Nat.le_refl _) o)
theorem Wst.draw {w0 w w' : World} {B b k k' : Nat} {v : Value} {xs : List GSwing} (h : Wst w0 w B b k v xs) (hb : b < w0.heap.size) (hg : w.grownBy w' (some b)) (hc : Cur w' B b k') : Wst w0 w' B b k' v xs :=
  ⟨h.form, kept_row h.row hg hb, h.bd, hc, h.gr.trans hg⟩
theorem Wst.mono {w0 w : World} {B b k k' : Nat} {v : Value} {xs : List GSwing} (h : Wst w0 w B b k v xs) (hk : k ≤ k') : Wst w0 w B b k' v xs := ⟨h.form, h.row, h.bd, h.cur.mono hk, h.gr⟩
theorem wst_snoc {w0 w w' : World} {B b k : Nat} {v v' : Value} {o : Obj} {xs : List GSwing} {s : GSwing} (hb : b < w0.heap.size) (h : Wst w0 w B b k v xs) (hs : BdW s)
    (hr' : w'.ownsRow w0.heap.size 63 4 v' (xs.length + 1) (xs.flatMap encSwing ++ encSwing s)) (hg : (w.alloc o).grownBy w' v.ownBlock) : Wst w0 w' B b k v' (xs ++ [s]) := by
  have hr := h.row
  have hlo : ∀ g, v.ownBlock = some g → w0.heap.size ≤ g := fun g e => (hr.lt g e).1
  have e1 : (xs ++ [s]).flatMap encSwing = xs.flatMap encSwing ++ encSwing s := by simp [List.flatMap_append]
  have e2 : (xs ++ [s]).length = xs.length + 1 := by simp
  obtain ⟨g, cap, rfl, _⟩ := row_some hr' (by omega)
  refine ⟨⟨g, cap, by rw [e2]⟩, by rw [e1, e2]; exact hr', fun t ht => ?_, (h.cur.alloc _).keep hg fun g e => Nat.lt_of_lt_of_le hb (hlo g e), grown_up (h.gr.trans (grown_alloc _ _ _)) hg hlo⟩
  rcases List.mem_append.1 ht with q | q
  · exact h.bd t q
  · rw [List.mem_singleton] at q; rw [q]; exact hs
/-- A list of arrivals that was drawn. -/
structure Wdl (w0 w : World) (B b k : Nat) (v : Value) (xs : List GSwing) : Prop where
  form : ∃ g cap, v = .slice (some ⟨g, 0, none⟩) xs.length cap
  own : SwingO w w0.heap.size w.heap.size v xs
  len : xs.length ≤ 12
  bd : ∀ s ∈ xs, BdW s
  cur : Cur w B b k
  gr : w0.grownBy w (some b)
theorem Wst.wdl {w0 w : World} {B b k : Nat} {v : Value} {xs : List GSwing} (h : Wst w0 w B b k v xs) (hl : xs.length ≤ 12) : Wdl w0 w B b k v xs :=
  ⟨h.form, (OwnK.of_row encSwing_len (by omega) h.row).mono (Nat.le_refl _) (Nat.le_refl _), hl, h.bd, h.cur, h.gr⟩
theorem Wdl.below {w0 w w' : World} {B b k : Nat} {v : Value} {xs : List GSwing} (h : Wdl w0 w B b k v xs) (hb : Below w.heap.size w w') : Wdl w0 w' B b k v xs :=
  ⟨h.form, (h.own.below hb).mono (Nat.le_refl _) hb.size, h.len, h.bd, h.cur.keep (World.Below_grown hb) (by simp), grown_up h.gr (World.Below_grown hb) (by simp)⟩
theorem Wdl.alloc {w0 w : World} {B b k : Nat} {v : Value} {xs : List GSwing} (h : Wdl w0 w B b k v xs) (o : Obj) : Wdl w0 (w.alloc o) B b k v xs := h.below ((Below.refl _ w).alloc (Nat.le_refl _) o)
theorem Wdl.draw {w0 w w' : World} {B b k k' : Nat} {v : Value} {xs : List GSwing} (h : Wdl w0 w B b k v xs) (hb : b < w0.heap.size) (hg : w.grownBy w' (some b)) (hc : Cur w' B b k') : Wdl w0 w' B b k' v xs :=
  ⟨h.form, (h.own.kept hg.size fun i h1 _ h3 => hg.block i h3 (by intro e; cases e; omega)).mono (Nat.le_refl _) hg.size, h.len, h.bd, hc, h.gr.trans hg⟩
theorem Wdl.mono {w0 w : World} {B b k k' : Nat} {v : Value} {xs : List GSwing} (h : Wdl w0 w B b k v xs) (hk : k ≤ k') : Wdl w0 w B b k' v xs := ⟨h.form, h.own, h.len, h.bd, h.cur.mono hk, h.gr⟩
theorem Wdl.lst {w0 w : World} {B b k : Nat} {v : Value} {xs : List GSwing} (h : Wdl w0 w B b k v xs) : SwingL w w.heap.size v xs := h.own.lst
theorem wdl_sz {xs : List GSwing} (h : xs.length ≤ 12) : szsSwing xs ≤ 1048576 := by rw [szsSwing_split]; omega
theorem Wst.set1 {w0 w : World} {B b k g n cap : Nat} {xs : List GSwing} (h : Wst w0 w B b k (.slice (some ⟨g, 0, none⟩) n cap) xs) {p : Addr} (hp : w0.heap.size ≤ p.block) (hpg : p.block ≠ g) (hb : b < p.block) (u : Value) : Wst w0 (w.setCell p u) B b k (.slice (some ⟨g, 0, none⟩) n cap) xs :=
  ⟨h.form, h.row.kept (row := some p.block) ⟨rfl, rfl, rfl, by simp [World.setCell], fun i hi hne => Below.heap_setCell w p u i (fun e => hne (by rw [e]))⟩ (Or.inr (by intro e; simp only [Value.ownBlock, Option.some.injEq] at e; exact hpg e.symm)), h.bd, curSet h.cur hb u, setP h.gr hp u⟩

set_option maxRecDepth 100000 in
set_option maxHeartbeats 4000000 in
theorem cur_swings (w : World) (B b k : Nat) (h : Cur w B b k) (hk : k ≤ 500000) :
    Calls Try.prog 107 #[.pointer (some ⟨b, 0, none⟩)] w fun e w' => ∃ (v : Value) (xs : List GSwing), e = .returned v ∧ Wdl w w' B b (k + 300) v xs := by
  obtain ⟨ti, hi, hz0, hz1, hz2⟩ := info_parts info_Swing
  have hbw := h.lt
  have HS0 : Hid (Wst w (w.alloc (.cells #[] 63)) B b k (.slice (some ⟨w.heap.size, 0, none⟩) 0 0) []) := Lib.hid ⟨⟨_, _, rfl⟩, rowK_empty w (base := w.heap.size) 63 4 (Nat.le_refl _), by simp, h.alloc _, grown_alloc w _ _⟩
  clear h
  go_enter Try.func107, Try.ntmps107
  go_wp2_with fail
  refine (cur_pick _ B b _ 8 HS0.out.cur (by omega) (by omega) (by omega)).mono ?_
  rintro e w1 ⟨r, rfl, hr0, hr1, hc, hg⟩
  obtain ⟨m0, rfl⟩ : ∃ m : Nat, r = m := ⟨r.toNat, by omega⟩
  have HS1 := Lib.hid ((HS0.out.draw hbw hg hc).mono (k' := k + 10) (by omega))
  clear HS0 hc hg
  go_wp2
  go_loopw [3, 4, 5] (fun o s n wr => ∃ (m : Nat) (st : Int) (xs : List GSwing), n = .int .i64 m ∧ s = .int .i64 st ∧ m ≤ 7 ∧ xs.length + m ≤ 7 ∧ (0 ≤ st ∧ st ≤ 3 * (xs.length : Int)) ∧ Wst w wr B b (k + 10 + 30 * xs.length) o xs) (fun _ _ n _ => (intOf n).toNat)
  case atStart => exact ⟨m0, 0, [], rfl, rfl, by omega, by simp <;> omega, by simp, HS1.out.mono (by omega)⟩
  case round =>
    clear HS1 hr0 hr1
    obtain ⟨m, st, xs, rfl, rfl, hm7, hl1, ⟨hst0, hst1⟩, hS⟩ := hrel
    obtain ⟨g, cap, rfl⟩ := hS.form
    have HS3 := Lib.hid hS
    clear hS
    by_cases hm : 0 < m
    case pos =>
      have hm1 : (0 : Int) < (m : Int) := by omega
      have s1 : IntKind.i64.wrap (st + 1) = st + 1 := IntWalk.i64_in _ (by omega)
      go_wp2_with fail
      refine (cur_pick _ B b _ 3 HS3.out.cur (by omega) (by omega) (by omega)).mono ?_
      rintro e w4 ⟨p, rfl, hp0, hp1, hc, hg⟩
      have HS4 := Lib.hid (HS3.out.draw hbw hg hc)
      clear HS3 hc hg
      have s2 : IntKind.i64.wrap (st + 1 + p) = st + 1 + p := IntWalk.i64_in _ (by omega)
      go_wp2_with fail
      refine (cur_pick _ B b _ 90 HS4.out.cur (by omega) (by omega) (by omega)).mono ?_
      rintro e w5 ⟨q, rfl, hq0, hq1, hc, hg⟩
      have HS5 := Lib.hid (HS4.out.draw hbw hg hc)
      clear HS4 hc hg
      obtain ⟨d, hd⟩ : ∃ d, q.tdiv 89 = d := ⟨_, rfl⟩
      have hd2 : 0 ≤ d ∧ d ≤ 1 := by rw [← hd, Int.tdiv_eq_ediv_of_nonneg (by omega)]; omega
      have s3 : IntKind.i64.wrap d = d := IntWalk.i64_in _ (by omega)
      have s4 : IntKind.i64.wrap (st + 1 + p - d) = st + 1 + p - d := IntWalk.i64_in _ (by omega)
      go_wp2_with fail
      refine (cur_swing _ B b _ (st + 1 + p - d) (by omega) HS5.out.cur (by omega)).mono ?_
      rintro e w6 ⟨sw, rfl, hbs, hc, hg⟩
      have HS6 := Lib.hid (HS5.out.draw hbw hg hc)
      clear HS5 hc hg
      have HR5 := Lib.hid (HS6.out.row.alloc (.cells (encSwing sw).toArray 63))
      have HSRC := Lib.hid (srcK_box (Bx.new w6 (encSwing sw) 63) (fun u hu => by have := oneSwing [sw] u (by simpa using hu); exact this))
      have hz9 := HS6.out.gr.size
      go_wp2_with (at_builtin; refine wpList_append_srcK _ rfl _ _ 52 rfl w.heap.size 63 ti _ 4 32 Try.underlying52 hi hz0 hz1 hz2 rfl (by decide) (.slice (some ⟨g, 0, none⟩) xs.length cap) xs.length (xs.flatMap encSwing) rfl HR5.out _ 1 (encSwing sw) rfl HSRC.out (by unfold maxLen; omega) (by omega) (by simp; omega) ?_; intro v7 w7 hr5 hg5 _)
      have HS7 := Lib.hid (wst_snoc hbw HS6.out hbs hr5 hg5)
      clear hr5 hg5 HR5 HSRC HS6 hz9 hbs
      obtain ⟨g5, cap5, rfl⟩ := HS7.out.form
      have hl5 : (xs ++ [sw]).length = xs.length + 1 := by simp
      generalize xs ++ [sw] = ys at *
      have HL5 := Lib.hid hl5
      clear hl5 hd
      go_wp2
      go_roundw
      case rel => exact ⟨m - 1, st + 1 + p - d, ys, by rw [show ((m : Int) - 1) = ((m - 1 : Nat) : Int) by omega], rfl, by omega, by have := HL5.out; omega, by have := HL5.out; omega, HS7.out.mono (by have := HL5.out; omega)⟩
      case measure => simp [intOf]; omega
    case neg =>
      obtain rfl : m = 0 := by omega
      have hx7 : xs.length ≤ 7 := by omega
      have hst9 : st ≤ 40 := by omega
      clear hl1 hm hm7 hst1
      go_wp2_with fail
      refine (cur_one _ B b _ 24 HS3.out.cur (by omega) (by omega) (by omega)).mono ?_
      rintro e w4 ⟨yes, rfl, hc, hg⟩
      have HS4 := Lib.hid ((HS3.out.draw hbw hg hc).mono (k' := k + 230) (by omega))
      clear HS3 hc hg
      cases yes with
      | false =>
        go_wp2
        go_ret
        exact ⟨_, xs, rfl, (HS4.out.wdl (by omega)).mono (by omega)⟩
      | true =>
        go_wp2
        go_loopw [3, 4] (fun o s wr => ∃ (st : Int) (xs : List GSwing), xs.length ≤ 11 ∧ s = .int .i64 st ∧ (0 ≤ st ∧ st ≤ 40 + (xs.length : Int)) ∧ Wst w wr B b (k + 230 + 2 * xs.length) o xs) (fun o _ _ => 12 - (match o with | .slice _ n _ => n | _ => 0))
        case atStart => exact ⟨st, xs, by omega, rfl, by omega, HS4.out.mono (by omega)⟩
        case round =>
          clear HS4 hx7 hst9 hst0
          obtain ⟨st, ys, hl9, rfl, ⟨hst0, hst1⟩, hS⟩ := hrel
          obtain ⟨g, cap, rfl⟩ := hS.form
          have HS5 := Lib.hid hS
          clear hS
          go_wp2_with fail
          refine (cur_pick _ B b _ 2 HS5.out.cur (by omega) (by omega) (by omega)).mono ?_
          rintro e w5 ⟨q, rfl, hq0, hq1, hc, hg⟩
          have HS6 := Lib.hid (HS5.out.draw hbw hg hc)
          clear HS5 hc hg
          have s1 : IntKind.i64.wrap (10 + q) = 10 + q := IntWalk.i64_in _ (by omega)
          have s2 : IntKind.i64.wrap (st + 1) = st + 1 := IntWalk.i64_in _ (by omega)
          by_cases hlt : (ys.length : Int) < 10 + q
          case neg =>
            go_wp2
            go_ret
            exact ⟨_, ys, rfl, (HS6.out.wdl (by omega)).mono (by omega)⟩
          have hl7 : ys.length ≤ 10 := by omega
          have hbs : BdW (⟨st + 1, 0, 50, 0⟩ : GSwing) := by unfold BdW; simp only; omega
          have HR5 := Lib.hid (HS6.out.row.alloc (.cells (encSwing (⟨st + 1, 0, 50, 0⟩ : GSwing)).toArray 63))
          have HSRC := Lib.hid (srcK_box (Bx.new w5 (encSwing (⟨st + 1, 0, 50, 0⟩ : GSwing)) 63) (fun u hu => by have := oneSwing [(⟨st + 1, 0, 50, 0⟩ : GSwing)] u (by simpa using hu); exact this))
          have hz9 := HS6.out.gr.size
          go_wp2_with (at_builtin; refine wpList_append_srcK _ rfl _ _ 52 rfl w.heap.size 63 ti _ 4 32 Try.underlying52 hi hz0 hz1 hz2 rfl (by decide) (.slice (some ⟨g, 0, none⟩) ys.length cap) ys.length (ys.flatMap encSwing) rfl HR5.out _ 1 (encSwing (⟨st + 1, 0, 50, 0⟩ : GSwing)) rfl HSRC.out (by unfold maxLen; omega) (by omega) (by simp; omega) ?_; intro v5 w7 hr5 hg5 _)
          have HS7 := Lib.hid (wst_snoc hbw HS6.out hbs hr5 hg5)
          clear hr5 hg5 HR5 HSRC HS6 hz9 hbs
          obtain ⟨g5, cap5, rfl⟩ := HS7.out.form
          have hl5 : (ys ++ [(⟨st + 1, 0, 50, 0⟩ : GSwing)]).length = ys.length + 1 := by simp
          generalize ys ++ [(⟨st + 1, 0, 50, 0⟩ : GSwing)] = us at *
          have HL5 := Lib.hid hl5
          clear hl5
          go_wp2
          go_roundw
          case rel => exact ⟨st + 1, us, by have := HL5.out; omega, rfl, by have := HL5.out; omega, HS7.out.mono (by have := HL5.out; omega)⟩
          case measure => have := HL5.out; simp; omega
end Go.Proofs.Ytdiedfpfhbdamaa
