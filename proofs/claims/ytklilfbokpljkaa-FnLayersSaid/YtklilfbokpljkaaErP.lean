/- Models of the ground: the program's reach, by sort.Search. -/
import Derived.Test.YtklilfbokpljkaaErL
import Derived.Test.YtklilfbokpljkaaErF
import Derived.Test.YtklilfbokpljkaaShx
namespace Go.Proofs.Ytklilfbokpljkaa
open Go.ChangeShapes Go.WideShapes Go.ChangeAt Go.RowKit Go.ChangeMaps Go.Sort Go.Shelf
set_option linter.unusedSimpArgs false
set_option linter.unusedVariables false
set_option linter.unusedSimpArgs false
set_option linter.unusedVariables false

theorem reach_enters : ∀ args w, (callFunc 119 args).run Try.prog w = .ok (.enter 119 args) w := enters_of Try.func119 (by kernel_rfl) rfl
theorem searchReach (xs : List GEarth) (s : Int) (bt bs : Nat) (w : World) (hok : okE xs) (hs0 : 0 ≤ s) (hs1 : s ≤ 100000) (bx : Bx w bt (tvE xs)) (cs : w.cell? ⟨bs, 0, none⟩ = some (.int .i64 s)) :
    Calls Try.prog 118 #[.int .i64 2001, .func (.func 119) #[] #[.pointer (some ⟨bt, 0, none⟩), .pointer (some ⟨bs, 0, none⟩)]] w fun e w' => e = .returned (.int .i64 ((runE (farE (prodE xs) xs s) 2001 : Nat) : Int)) ∧ Below w.heap.size w w' := by
  have hS := Any.sort_Search Try.search 119 #[.pointer (some ⟨bt, 0, none⟩), .pointer (some ⟨bs, 0, none⟩)] 2001 (fun (i : Nat) => farE (prodE xs) xs s i) w reach_enters (by omega)
    (fun m os i hi => (cloReach xs s i bt bs _ hok hs0 hs1 (by omega) (by omega) ((grew_gr w m os).bx bx) (cell_gr cs m os)).mono fun e w' ⟨he, hw⟩ => ⟨he, hw⟩)
    (fun a b hab hb ha => farE_mono hok s hab ha)
  refine Calls.mono hS ?_
  rintro e w' ⟨rfl, q, os, rfl⟩
  refine ⟨?_, Grew.below ⟨q, os, rfl⟩⟩
  rw [runE_count (fun a b hab ha => farE_mono hok s hab ha)]
set_option maxRecDepth 100000 in
set_option maxHeartbeats 4000000 in
theorem implRe (xs : List GEarth) (v : Value) (s : Int) (w : World) (B : Nat) (h : EarthL w B v xs) (hB : B ≤ w.heap.size) (hn : szsEarth xs ≤ 1048576) (hw : ∀ s ∈ xs, wfEarth s) (_ : I64 s) :
    Calls Try.prog 40 #[v, .int .i64 s] w fun e w' => e = .returned (.tuple #[.int .i64 (atRe xs s), .bool (okRe xs s)]) ∧ Below w.heap.size w w' := by
  have hl := Nat.le_trans (szsEarth_len xs) hn
  have N0 : Below w.heap.size w (w.alloc (.cells #[.int .i64 s] 3)) := (Below.refl _ w).alloc (Nat.le_refl _) _
  have bs : Bx (w.alloc (.cells #[.int .i64 s] 3)) w.heap.size [.int .i64 s] := Bx.new w [.int .i64 s] 3
  cases hg : goodE xs with
  | false =>
    have CG : Hid (Calls Try.prog 35 #[v] (w.alloc (.cells #[.int .i64 s] 3)) fun e w9 => e = .returned (.bool false) ∧ Below (w.alloc (.cells #[.int .i64 s] 3)).heap.size (w.alloc (.cells #[.int .i64 s] 3)) w9) := Lib.hid (implGoodE xs v false _ B (h.below (N0.mono hB)) (Nat.le_trans hB N0.size) hl hg)
    have HF := Lib.hid (noRe (xs := xs) (s := s) (by unfold okRe; rw [hg]; rfl))
    obtain ⟨ao, cap, rfl⟩ := h.form
    clear h hg
    go_enter Try.func40, Try.ntmps40
    go_wp2_with fail
    refine CG.out.mono ?_
    rintro e w1 ⟨rfl, hb1⟩
    have bs1 := bs.below hb1
    have N1 := N0.trans (hb1.mono N0.size)
    clear hb1 N0 bs
    go_wp2
    go_ret2
    exact ⟨HF.out, N1⟩
  | true =>
    have hok := goodE_yes hg
    have CG : Hid (Calls Try.prog 35 #[v] (w.alloc (.cells #[.int .i64 s] 3)) fun e w9 => e = .returned (.bool true) ∧ Below (w.alloc (.cells #[.int .i64 s] 3)).heap.size (w.alloc (.cells #[.int .i64 s] 3)) w9) := Lib.hid (implGoodE xs v true _ B (h.below (N0.mono hB)) (Nat.le_trans hB N0.size) hl hg)
    have CI := Lib.hid (fun (W : World) u hu => withinOne 0 100000 s W.heap.size u _ (Bx.new W [.int .i64 s] 3) hu)
    by_cases hd : 0 ≤ s ∧ s ≤ 100000
    case neg =>
      have CI := Lib.hid (fun W => CI.out W false (decide_eq_false hd))
      have HF := Lib.hid (noRe (xs := xs) (s := s) (by unfold okRe; rw [decide_eq_false hd, Bool.and_false]))
      obtain ⟨ao, cap, rfl⟩ := h.form
      clear h hg hd hok
      go_enter Try.func40, Try.ntmps40
      go_wp2_with fail
      refine CG.out.mono ?_
      rintro e w1 ⟨rfl, hb1⟩
      have bs1 := bs.below hb1
      have N1 := N0.trans (hb1.mono N0.size)
      clear hb1 N0 bs
      have cs1 := bs1.2 0 _ rfl
      have N2 := N1.alloc N1.size (.cells #[.int .i64 s] 3)
      have bs2 := bs1.alloc (.cells #[.int .i64 s] 3)
      go_wp2_with fail
      refine (CI.out w1).mono ?_
      rintro e w2 ⟨rfl, hw2⟩
      subst hw2
      clear cs1 N1 bs1
      go_wp2
      go_ret2
      exact ⟨HF.out, N2⟩
    have CI := Lib.hid (fun W => CI.out W true (decide_eq_true hd))
    have CT : Hid (∀ W, Below w.heap.size w W → Calls Try.prog 100 #[v] W fun e w9 => e = .returned (.agg (tvE xs).toArray) ∧ Below W.heap.size W w9) := Lib.hid (fun W q => implTvl xs v W B (h.below (q.mono hB)) (Nat.le_trans hB q.size) hok)
    have CS : Hid (∀ (W : World) (bt bs : Nat), Bx W bt (tvE xs) → Bx W bs [.int .i64 s] → Calls Try.prog 118 #[.int .i64 2001, .func (.func 119) #[] #[.pointer (some ⟨bt, 0, none⟩), .pointer (some ⟨bs, 0, none⟩)]] W fun e w' => e = .returned (.int .i64 ((runE (farE (prodE xs) xs s) 2001 : Nat) : Int)) ∧ Below W.heap.size W w') := Lib.hid (fun W bt bs h1 h2 => searchReach xs s bt bs W hok hd.1 hd.2 h1 (h2.2 0 _ rfl))
    have HF := Lib.hid (yesRe (xs := xs) (s := s) (by unfold okRe; rw [hg, decide_eq_true hd]; rfl) rfl)
    have hrl := runE_le (farE (prodE xs) xs s) 2001
    have hr1 : 1 ≤ runE (farE (prodE xs) xs s) 2001 := by
      rcases Nat.eq_zero_or_pos (runE (farE (prodE xs) xs s) 2001) with q | q
      · have := runE_at (farE (prodE xs) xs s) 2001 (by omega)
        rw [q, farE_zero hok hd.1] at this; cases this
      · exact q
    generalize hrr : runE (farE (prodE xs) xs s) 2001 = r at *
    have s1 : IntKind.i64.wrap ((r : Int) - 1) = (r : Int) - 1 := IntWalk.i64_in _ (by omega)
    obtain ⟨f0, f1, f2, f3, f4, t0, t1, t2, t3, t4, ht⟩ := tvE_form xs
    rw [ht] at CT CS
    generalize prodE xs = P at *
    obtain ⟨ao, cap, rfl⟩ := h.form
    clear h hg hd hok hrr ht
    go_enter Try.func40, Try.ntmps40
    go_wp2_with fail
    refine CG.out.mono ?_
    rintro e w1 ⟨rfl, hb1⟩
    have bs1 := bs.below hb1
    have N1 := N0.trans (hb1.mono N0.size)
    clear hb1 N0 bs
    have cs1 := bs1.2 0 _ rfl
    have N2 := N1.alloc N1.size (.cells #[.int .i64 s] 3)
    have bs2 := bs1.alloc (.cells #[.int .i64 s] 3)
    go_wp2_with fail
    refine (CI.out w1).mono ?_
    rintro e w2 ⟨rfl, hw2⟩
    subst hw2
    clear cs1 N1 bs1
    go_wp2_with fail
    refine (CT.out _ N2).mono ?_
    rintro e w3 ⟨rfl, hb3⟩
    have N3 := N2.trans (hb3.mono N2.size)
    have bs3 := bs2.below hb3
    clear hb3 N2 bs2
    have bt := Bx.new w3 [.int .i64 xs.length, .int .i64 P, .int .i64 f0, .int .i64 f1, .int .i64 f2, .int .i64 f3, .int .i64 f4, .int .i64 t0, .int .i64 t1, .int .i64 t2, .int .i64 t3, .int .i64 t4] 89
    have bs4 := bs3.alloc (.cells #[.int .i64 xs.length, .int .i64 P, .int .i64 f0, .int .i64 f1, .int .i64 f2, .int .i64 f3, .int .i64 f4, .int .i64 t0, .int .i64 t1, .int .i64 t2, .int .i64 t3, .int .i64 t4] 89)
    have N4 := N3.alloc N3.size (.cells #[.int .i64 xs.length, .int .i64 P, .int .i64 f0, .int .i64 f1, .int .i64 f2, .int .i64 f3, .int .i64 f4, .int .i64 t0, .int .i64 t1, .int .i64 t2, .int .i64 t3, .int .i64 t4] 89)
    go_wp2_with fail
    refine (CS.out _ _ _ bt bs4).mono ?_
    rintro e w5 ⟨rfl, hb5⟩
    have N5 := N4.trans (hb5.mono N4.size)
    clear hb5 N4 bs4 bt
    go_wp2
    go_ret2
    exact ⟨HF.out, N5⟩
end Go.Proofs.Ytklilfbokpljkaa
