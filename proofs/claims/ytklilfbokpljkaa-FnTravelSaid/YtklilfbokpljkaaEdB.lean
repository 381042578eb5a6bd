/- The specification's draws of models: the model. -/
import Derived.Test.YtklilfbokpljkaaEdA
namespace Go.Proofs.Ytklilfbokpljkaa
open Go.ChangeShapes Go.WideShapes Go.ChangeAt Go.RowKit Go.ChangeMaps
set_option linter.unusedSimpArgs false
set_option linter.unusedVariables false
set_option linter.unusedSimpArgs false
set_option linter.unusedVariables false

theorem ints_lit1E (w : World) (o : Obj) (b : Nat) (hb : b < (w.alloc o).heap.size) (T : TypeId) (cap : Nat) (xs : List Int) :
    OfInts ((w.alloc o).alloc (.cells (xs.map (Value.int .i64)).toArray T)) b (.slice (some ⟨w.heap.size + 1, 0, none⟩) xs.length cap) xs := by
  have h := ints_lit (w.alloc o) b hb T cap xs
  rwa [World.size_alloc] at h
theorem Mdl.set2 {w0 w : World} {B b k g n cap : Nat} {x : GEarth} {xs : List GEarth} (h : Mdl w0 w B b k (.slice (some ⟨g, 0, none⟩) n cap) (x :: xs)) (hb : b < w0.heap.size) (y : GEarth) (hy : BdE y) :
    Mdl w0 ((w.setCell ⟨g, 0, none⟩ (.int .i64 y.pThick)).setCell ⟨g, 1, none⟩ (.int .i64 y.pSpeed)) B b k (.slice (some ⟨g, 0, none⟩) n cap) (y :: xs) := by
  obtain ⟨g9, cap9, e9⟩ := h.form
  have hat := h.own.at (i := 0) (x := x) rfl
  have o1 := h.own.set encEarth_len (i := 0) (m := 0) (x := x) (y := ⟨y.pThick, x.pSpeed⟩) (u := .int .i64 y.pThick) rfl rfl (by omega) rfl
  rw [Nat.zero_mul] at o1
  have o2 := o1.set encEarth_len (i := 0) (m := 1) (x := ⟨y.pThick, x.pSpeed⟩) (y := y) (u := .int .i64 y.pSpeed) rfl rfl (by omega) rfl
  rw [Nat.zero_mul] at o2
  have z : ((w.setCell ⟨g, 0, none⟩ (.int .i64 y.pThick)).setCell ⟨g, 1, none⟩ (.int .i64 y.pSpeed)).heap.size = w.heap.size := by simp [World.setCell]
  have hg : w0.heap.size ≤ g := hat.1
  refine ⟨⟨g, cap, by simp only [Value.slice.injEq] at e9 ⊢; exact ⟨trivial, e9.2.1, trivial⟩⟩, ?_, h.len, fun s hs => ?_, curSet (curSet h.cur (by show b < g; omega) _) (by show b < g; omega) _, setP (setP h.gr (by show _ ≤ g; omega) _) (by show _ ≤ g; omega) _⟩
  · rw [z]
    exact o2
  · rcases List.mem_cons.1 hs with q | q
    · rw [q]; exact hy
    · exact h.bd s (List.mem_cons_of_mem _ q)
set_option maxRecDepth 100000 in
set_option maxHeartbeats 4000000 in
theorem cur_model (w : World) (B b k : Nat) (h : Cur w B b k) (hk : k ≤ 500000) :
    Calls Try.prog 112 #[.pointer (some ⟨b, 0, none⟩)] w fun e w' => ∃ (v : Value) (xs : List GEarth), e = .returned v ∧ Mdl w w' B b (k + 100) v xs := by
  obtain ⟨ti, hi, hz0, hz1, hz2⟩ := info_parts info_EarthP
  have hbw := h.lt
  have HS0 : Hid (Est w (w.alloc (.cells #[] 83)) B b k (.slice (some ⟨w.heap.size, 0, none⟩) 0 0) []) := Lib.hid ⟨⟨_, _, rfl⟩, rowK_empty w (base := w.heap.size) 83 2 (Nat.le_refl _), by simp, h.alloc _, grown_alloc w _ _⟩
  clear h
  go_enter Try.func112, Try.ntmps112
  have z1 := HS0.out.cur.lt
  go_wp2_with fail
  refine (cur_among _ B b _ (HS0.out.cur.alloc _) (by omega) _ _ (ints_lit1E w (.cells #[] 83) b z1 3 4 [1, 4, 5, 6]) (by simp) (by simp)).mono ?_
  rintro e w1 ⟨sp, rfl, hx, hc, hg⟩
  have hbsp : 0 ≤ sp ∧ sp ≤ 50 := by
    revert sp
    decide
  have HS1 := Lib.hid ((HS0.out.alloc _).draw hbw hg hc)
  clear HS0 hc hg hx z1
  go_wp2_with fail
  refine (cur_pick _ B b _ 4 HS1.out.cur (by omega) (by omega) (by omega)).mono ?_
  rintro e w2 ⟨r, rfl, hr0, hr1, hc, hg⟩
  obtain ⟨m0, rfl⟩ : ∃ m : Nat, r = m := ⟨r.toNat, by omega⟩
  have HS2 := Lib.hid (HS1.out.draw hbw hg hc)
  clear HS1 hc hg
  have s1 : IntKind.i64.wrap (1 + (m0 : Int)) = 1 + (m0 : Int) := IntWalk.i64_in _ (by omega)
  go_wp2
  go_loopw [3, 4, 5] (fun o s n wr => ∃ (m : Nat) (sp : Int) (xs : List GEarth), n = .int .i64 m ∧ s = .int .i64 sp ∧ m ≤ 4 ∧ xs.length + m ≤ 4 ∧ 1 ≤ xs.length + m ∧ (0 ≤ sp ∧ sp ≤ 50) ∧ Est w wr B b (k + 4 + 6 * (4 - m)) o xs) (fun _ _ n _ => (intOf n).toNat)
  case atStart => exact ⟨1 + m0, sp, [], by go_num, rfl, by omega, by simp <;> omega, by simp <;> omega, hbsp, HS2.out.mono (by omega)⟩
  case round =>
    clear HS2 hbsp s1 hr0 hr1
    obtain ⟨m, sp, xs, rfl, rfl, hm4, hl1, hl2, ⟨hsp0, hsp1⟩, hS⟩ := hrel
    obtain ⟨g, cap, rfl⟩ := hS.form
    have HS3 := Lib.hid hS
    clear hS
    by_cases hm : 0 < m
    case pos =>
      have hm1 : (0 : Int) < (m : Int) := by omega
      have z4 := HS3.out.cur.lt
      go_wp2_with fail
      refine (cur_among _ B b _ (HS3.out.cur.alloc _) (by omega) _ _ (ints_lit wr b z4 3 6 [1, 5, 10, 20, 35, 200]) (by simp) (by simp)).mono ?_
      rintro e w4 ⟨th, rfl, hx, hc, hg⟩
      have hbth : 0 ≤ th ∧ th ≤ 300 := by
        revert th
        decide
      have HS4 := Lib.hid ((HS3.out.alloc _).draw hbw hg hc)
      clear HS3 hc hg hx z4
      have hbs : BdE (⟨th, sp⟩ : GEarth) := by unfold BdE; simp only; omega
      have HR5 := Lib.hid (HS4.out.row.alloc (.cells (encEarth (⟨th, sp⟩ : GEarth)).toArray 83))
      have HSRC := Lib.hid (srcK_box (Bx.new w4 (encEarth (⟨th, sp⟩ : GEarth)) 83) (fun u hu => by have := oneEarth [(⟨th, sp⟩ : GEarth)] u (by simpa using hu); exact this))
      have hz9 := HS4.out.gr.size
      go_wp2_with (at_builtin; refine wpList_append_srcK _ rfl _ _ 26 rfl w.heap.size 83 ti _ 2 16 Try.underlying26 hi hz0 hz1 hz2 rfl (by decide) (.slice (some ⟨g, 0, none⟩) xs.length cap) xs.length (xs.flatMap encEarth) rfl HR5.out _ 1 (encEarth (⟨th, sp⟩ : GEarth)) rfl HSRC.out (by unfold maxLen; omega) (by omega) (by simp; omega) ?_; intro v5 w5 hr5 hg5 _)
      have HS5 := Lib.hid (est_snoc hbw HS4.out hbs hr5 hg5)
      clear hr5 hg5 HR5 HSRC HS4 hz9 hbs
      obtain ⟨g5, cap5, rfl⟩ := HS5.out.form
      have hl5 : (xs ++ [(⟨th, sp⟩ : GEarth)]).length = xs.length + 1 := by simp
      generalize xs ++ [(⟨th, sp⟩ : GEarth)] = ys at *
      have HL5 := Lib.hid hl5
      clear hl5 hbth
      have z6 := HS5.out.cur.lt
      go_wp2_with fail
      refine (cur_among _ B b _ (HS5.out.cur.alloc _) (by omega) _ _ (ints_lit w5 b z6 3 5 [1, 2, 3, 0, 10]) (by simp) (by simp)).mono ?_
      rintro e w6 ⟨ad, rfl, hx, hc, hg⟩
      have hbad : 0 ≤ ad ∧ ad ≤ 10 := by
        revert ad
        decide
      have HS6 := Lib.hid ((HS5.out.alloc _).draw hbw hg hc)
      clear HS5 hc hg hx z6
      have s2 : IntKind.i64.wrap (sp + ad) = sp + ad := IntWalk.i64_in _ (by omega)
      obtain ⟨s3, hs3⟩ : ∃ s3, (if 50 < sp + ad then 50 else sp + ad) = s3 := ⟨_, rfl⟩
      have hs4 : 0 ≤ s3 ∧ s3 ≤ 50 := by rw [← hs3]; split <;> omega
      have CL := Lib.hid (fun W => leastE 50 (sp + ad) s3 W hs3)
      clear hs3
      go_wp2_with fail
      refine (CL.out _).mono ?_
      rintro e w9 ⟨rfl, q9⟩
      obtain rfl : w6 = w9 := q9.symm
      go_wp2_with fail
      refine (cur_one _ B b _ 8 HS6.out.cur (by omega) (by omega) (by omega)).mono ?_
      rintro e w7 ⟨yes, rfl, hc, hg⟩
      have HS7 := Lib.hid (HS6.out.draw hbw hg hc)
      clear HS6 hc hg CL s2 hbad
      cases yes with
      | false =>
        go_wp2
        go_roundw
        case rel => exact ⟨m - 1, s3, ys, by rw [show ((m : Int) - 1) = ((m - 1 : Nat) : Int) by omega], rfl, by omega, by have := HL5.out; omega, by have := HL5.out; omega, hs4, HS7.out.mono (by omega)⟩
        case measure => simp [intOf]; omega
      | true =>
        have s2 : IntKind.i64.wrap (s3 - 2) = s3 - 2 := IntWalk.i64_in _ (by omega)
        obtain ⟨s5, hs5⟩ : ∃ s5, (if s3 - 2 < 1 then 1 else s3 - 2) = s5 := ⟨_, rfl⟩
        have hs6 : 0 ≤ s5 ∧ s5 ≤ 50 := by rw [← hs5]; split <;> omega
        have CL := Lib.hid (fun W => mostB 1 (s3 - 2) s5 W hs5)
        clear hs5
        go_wp2_with fail
        refine (CL.out _).mono ?_
        rintro e w9 ⟨rfl, q9⟩
        obtain rfl : w7 = w9 := q9.symm
        go_wp2
        go_roundw
        case rel => exact ⟨m - 1, s5, ys, by rw [show ((m : Int) - 1) = ((m - 1 : Nat) : Int) by omega], rfl, by omega, by have := HL5.out; omega, by have := HL5.out; omega, hs6, HS7.out.mono (by omega)⟩
        case measure => simp [intOf]; omega
    case neg =>
      obtain rfl : m = 0 := by omega
      have hx0 : 1 ≤ xs.length := by omega
      have hx4 : xs.length ≤ 4 := by omega
      clear hl1 hl2 hm hm4
      go_wp2_with fail
      refine (cur_pick _ B b _ 32 HS3.out.cur (by omega) (by omega) (by omega)).mono ?_
      rintro e w4 ⟨r, rfl, hr0, hr1, hc, hg⟩
      have HS4 := Lib.hid ((HS3.out.draw hbw hg hc).mono (k' := k + 40) (by omega))
      clear HS3 hc hg
      by_cases h0 : r = 0
      case pos =>
        have g0 : (r == 0) = true := by simp [h0]
        clear h0
        obtain ⟨x, xt, rfl⟩ : ∃ x xt, xs = x :: xt := by
          cases xs with
          | nil => simp at hx0
          | cons x xt => exact ⟨x, xt, rfl⟩
        have z5 := HS4.out.cur.lt
        go_wp2_with fail
        refine (cur_among _ B b _ (HS4.out.cur.alloc _) (by omega) _ _ (ints_lit w4 b z5 3 3 [0, 201, 1]) (by simp) (by simp)).mono ?_
        rintro e w5 ⟨th, rfl, hx, hc, hg⟩
        have hbth : 0 ≤ th ∧ th ≤ 300 := by
          revert th
          decide
        have HS5 := Lib.hid ((HS4.out.alloc _).draw hbw hg hc)
        clear HS4 hc hg hx z5
        have z6 := HS5.out.cur.lt
        go_wp2_with fail
        refine (cur_among _ B b _ (HS5.out.cur.alloc _) (by omega) _ _ (ints_lit w5 b z6 3 3 [0, 51, 5]) (by simp) (by simp)).mono ?_
        rintro e w6 ⟨sq, rfl, hx, hc, hg⟩
        have hbsq : 0 ≤ sq ∧ sq ≤ 300 := by
          revert sq
          decide
        have HS6 := Lib.hid ((HS5.out.alloc _).draw hbw hg hc)
        clear HS5 hc hg hx z6
        have hbs : BdE (⟨th, sq⟩ : GEarth) := ⟨hbth, hbsq⟩
        have HM := Lib.hid (HS6.out.mdl (by omega))
        have hat := HM.out.own.at (i := 0) (x := x) rfl
        have c0 : w6.cell? ⟨g, 0, none⟩ = some (.int .i64 x.pThick) := by have := hat.2.2.2.1 0 _ rfl; simpa using this
        have c1 : w6.cell? ⟨g, 1, none⟩ = some (.int .i64 x.pSpeed) := by have := hat.2.2.2.1 1 _ rfl; simpa using this
        have fz := hat.2.2.2.2
        have fz0 := fz 0
        have fz1 := fz 1
        have HN := Lib.hid (HM.out.set2 hbw ⟨th, sq⟩ hbs)
        clear hat HS6 HM
        have hx5 : (0 : Int) < ((x :: xt).length : Int) := by omega
        have hx6 : 0 < (x :: xt).length := by omega
        have HX : Hid ((x :: xt).length = ((⟨th, sq⟩ : GEarth) :: xt).length) := Lib.hid rfl
        go_wp2
        go_ret
        refine ⟨_, (⟨th, sq⟩ : GEarth) :: xt, rfl, HN.out.mono (by omega)⟩
      case neg =>
        have g0 : (r == 0) = false := by simp [h0]
        by_cases h1 : r = 1
        case pos =>
          have g1 : (r == 1) = true := by simp [h1]
          clear h0 h1
          have z4 := HS4.out.gr.size
          have HS5 : Hid (Est w (w4.alloc (.cells #[] 83)) B b (k + 40) (.slice (some ⟨w4.heap.size, 0, none⟩) 0 0) []) := Lib.hid ⟨⟨_, _, rfl⟩, rowK_empty w4 (base := w.heap.size) 83 2 z4, by simp, HS4.out.cur.alloc _, HS4.out.gr.trans (grown_alloc w4 _ _)⟩
          clear HS4
          go_wp2
          go_ret
          exact ⟨_, [], rfl, (HS5.out.mdl (by simp)).mono (by omega)⟩
        case neg =>
          have g1 : (r == 1) = false := by simp [h1]
          by_cases h2 : r = 2
          case neg =>
            have g2 : (r == 2) = false := by simp [h2]
            clear h0 h1 h2
            go_wp2
            go_ret
            exact ⟨_, xs, rfl, (HS4.out.mdl (by omega)).mono (by omega)⟩
          case pos =>
            have g2 : (r == 2) = true := by simp [h2]
            clear h0 h1 h2
            go_wp2
            go_loopw [3] (fun o wr => ∃ (xs : List GEarth), xs.length ≤ 6 ∧ Est w wr B b (k + 40 + 2 * xs.length) o xs) (fun o _ => 7 - (match o with | .slice _ n _ => n | _ => 0))
            case atStart => exact ⟨xs, by omega, HS4.out.mono (by omega)⟩
            case round =>
              clear HS4
              clear hx0 hx4
              obtain ⟨ys, hl6, hS⟩ := hrel
              obtain ⟨g, cap, rfl⟩ := hS.form
              have HS5 := Lib.hid hS
              clear hS
              go_wp2_with fail
              refine (cur_pick _ B b _ 2 HS5.out.cur (by omega) (by omega) (by omega)).mono ?_
              rintro e w5 ⟨q, rfl, hq0, hq1, hc, hg⟩
              have HS6 := Lib.hid (HS5.out.draw hbw hg hc)
              clear HS5 hc hg
              have s1 : IntKind.i64.wrap (5 + q) = 5 + q := IntWalk.i64_in _ (by omega)
              by_cases hlt : (ys.length : Int) < 5 + q
              case neg =>
                go_wp2
                go_ret
                exact ⟨_, ys, rfl, (HS6.out.mdl hl6).mono (by omega)⟩
              have hl7 : ys.length ≤ 5 := by omega
              have hbs : BdE (⟨3, 9⟩ : GEarth) := by unfold BdE; simp only; omega
              have HR5 := Lib.hid (HS6.out.row.alloc (.cells (encEarth (⟨3, 9⟩ : GEarth)).toArray 83))
              have HSRC := Lib.hid (srcK_box (Bx.new w5 (encEarth (⟨3, 9⟩ : GEarth)) 83) (fun u hu => by have := oneEarth [(⟨3, 9⟩ : GEarth)] u (by simpa using hu); exact this))
              have hz9 := HS6.out.gr.size
              go_wp2_with (at_builtin; refine wpList_append_srcK _ rfl _ _ 26 rfl w.heap.size 83 ti _ 2 16 Try.underlying26 hi hz0 hz1 hz2 rfl (by decide) (.slice (some ⟨g, 0, none⟩) ys.length cap) ys.length (ys.flatMap encEarth) rfl HR5.out _ 1 (encEarth (⟨3, 9⟩ : GEarth)) rfl HSRC.out (by unfold maxLen; omega) (by omega) (by simp; omega) ?_; intro v5 w7 hr5 hg5 _)
              have HS7 := Lib.hid (est_snoc hbw HS6.out hbs hr5 hg5)
              clear hr5 hg5 HR5 HSRC HS6 hz9 hbs
              obtain ⟨g5, cap5, rfl⟩ := HS7.out.form
              have hl5 : (ys ++ [(⟨3, 9⟩ : GEarth)]).length = ys.length + 1 := by simp
              generalize ys ++ [(⟨3, 9⟩ : GEarth)] = us at *
              have HL5 := Lib.hid hl5
              clear hl5
              go_wp2
              go_roundw
              case rel => exact ⟨us, by have := HL5.out; omega, HS7.out.mono (by have := HL5.out; omega)⟩
              case measure => have := HL5.out; simp; omega
end Go.Proofs.Ytklilfbokpljkaa
