/- Triggers: the program's next place, the trigger for samples and a setting. -/
import Derived.Test.YtklilfbokpljkabTjC
import Derived.Shelf.GgClosure.Gives
namespace Go.Proofs.Ytklilfbokpljkab
open Go.ChangeShapes Go.WideShapes Go.ChangeAt Go.RowKit Go.ChangeMaps Go.Sort Go.Shelf
set_option linter.unusedSimpArgs false
set_option linter.unusedVariables false
set_option linter.unusedSimpArgs false
set_option linter.unusedVariables false

/-- What is asked of a test of places. -/
def TestT (g : Nat) (first : Array Value) (f : Nat → Bool) (lo n : Nat) (w : World) : Prop :=
  ∀ (W : World) (p : Nat), Below w.heap.size w W → lo ≤ p → p < n → Calls Try.prog g (first ++ #[.int .i64 (p : Int)]) W fun e w' => e = .returned (.bool (f p)) ∧ Below W.heap.size W w'
set_option maxRecDepth 100000 in
set_option maxHeartbeats 2000000 in
theorem nextPlT (f : Nat → Bool) (g : Nat) (tv : Value) (eg : ∀ args w, (callFunc g args).run Try.prog w = .ok (.enter g args) w) (ao : Option Addr) (n cap : Nat) (s : GSetting) (lo p r : Nat) (w : World) (hn : n ≤ 24) (hp : p ≤ 100) (hlo : lo ≤ p) (hr : nxT f n p = r)
    (ht : TestT g #[tv] f lo n w) :
    Calls Try.prog 115 #[aggT ao n cap s, .int .i64 (p : Int), .func (.func g) #[tv] #[]] w fun e w' => e = .returned (.int .i64 (r : Int)) ∧ Below w.heap.size w w' := by
  have N0 := (Below.refl w.heap.size w).alloc (Nat.le_refl _) (.cells #[.slice ao n cap, .int .i64 s.pShort, .int .i64 s.pLong, .int .i64 s.pOn, .int .i64 s.pOff] 78)
  have bx := Bx.new w (celT ao n cap s) 78
  have HT := Lib.hid ht
  have HR := Lib.hid hr
  clear ht hr
  go_enter Try.func115, Try.ntmps115
  go_wp2
  go_loopw [7] (fun i wr => ∃ k : Nat, lo ≤ k ∧ k ≤ 100 ∧ i = .int .i64 (k : Int) ∧ Hid (nxT f n k = r) ∧ Bx wr w.heap.size (celT ao n cap s) ∧ Below w.heap.size w wr) (fun i _ => n - (intOf i).toNat)
  case atStart => exact ⟨p, hlo, hp, rfl, HR, bx, N0⟩
  case round =>
    obtain ⟨k, hlk, hk, rfl, HK, b1, hbl⟩ := hrel
    clear bx N0
    have hsz := hbl.size
    have c0 := b1.2 0 _ rfl
    have c1 := b1.2 1 _ rfl
    have c2 := b1.2 2 _ rfl
    have c3 := b1.2 3 _ rfl
    have c4 := b1.2 4 _ rfl
    by_cases hlt : k < n
    case neg =>
      have HE : Hid (n = r) := Lib.hid (by rw [← HK.out, nxT_end (by omega)])
      have hq : ¬ (k : Int) < (n : Int) := by omega
      go_wp2
      go_ret
      exact ⟨ret_int (by rw [HE.out]), hbl⟩
    have hq : (k : Int) < (n : Int) := by omega
    have hcall := HT.out wr k hbl hlk hlt
    cases hf : f k with
    | true =>
      rw [hf] at hcall
      have HE : Hid (k = r) := Lib.hid (by rw [← HK.out, nxT_yes hlt hf])
      clear hf
      go_wp2_with (go_at_fn g; refine hcall.mono ?_; rintro e w2 ⟨rfl, hb2⟩)
      go_ret
      exact ⟨ret_int (by rw [HE.out]), hbl.trans (hb2.mono hsz)⟩
    | false =>
      rw [hf] at hcall
      have HK2 : Hid (nxT f n (k + 1) = r) := Lib.hid (by rw [← HK.out, nxT_no hlt hf])
      have b1' := Lib.hid b1
      clear hf b1
      go_wp2_with (go_at_fn g; refine hcall.mono ?_; rintro e w2 ⟨rfl, hb2⟩)
      go_roundw
      case rel => exact ⟨k + 1, by omega, by omega, by go_num, HK2, b1'.out.below hb2, hbl.trans (hb2.mono hsz)⟩
      case measure => simp [intOf]; omega
theorem enters_loud : ∀ args w, (callFunc 116 args).run Try.prog w = .ok (.enter 116 args) w := enters_of Try.func116 (by kernel_rfl) rfl
theorem enters_quiet : ∀ args w, (callFunc 120 args).run Try.prog w = .ok (.enter 120 args) w := enters_of Try.func120 (by kernel_rfl) rfl
theorem testLoud (xs : List Int) (ao : Option Addr) (cap : Nat) (s : GSetting) (w : World) (B : Nat) (h : Lst (Value.int .i64) w B (.slice ao xs.length cap) xs) (hB : B ≤ w.heap.size) (hx : okL xs = true) (hs : okS s) :
    TestT 116 #[aggT ao xs.length cap s] (loudT xs s s.pOn) (plT s) xs.length w := fun W p hb hl hp =>
  loudAtT xs ao cap s p _ W B (h.below (hb.mono hB)) (Nat.le_trans hB hb.size) hx hs (by have : plT s = s.pLong.toNat - 1 := rfl; have := hs.1; have := hs.2.1; omega) hp rfl
theorem testQuiet (xs : List Int) (ao : Option Addr) (cap : Nat) (s : GSetting) (w : World) (B : Nat) (h : Lst (Value.int .i64) w B (.slice ao xs.length cap) xs) (hB : B ≤ w.heap.size) (hx : okL xs = true) (hs : okS s) :
    TestT 120 #[aggT ao xs.length cap s] (quietT xs s s.pOff) (plT s) xs.length w := fun W p hb hl hp =>
  quietAtT xs ao cap s p _ W B (h.below (hb.mono hB)) (Nat.le_trans hB hb.size) hx hs (by have : plT s = s.pLong.toNat - 1 := rfl; have := hs.1; have := hs.2.1; omega) hp rfl
theorem nextLoudT (xs : List Int) (ao : Option Addr) (cap : Nat) (s : GSetting) (p r : Nat) (w : World) (B : Nat) (h : Lst (Value.int .i64) w B (.slice ao xs.length cap) xs) (hB : B ≤ w.heap.size) (hx : okL xs = true) (hs : okS s) (hp : p ≤ 100) (hlo : plT s ≤ p) (hr : nxT (loudT xs s s.pOn) xs.length p = r) :
    Calls Try.prog 115 #[aggT ao xs.length cap s, .int .i64 (p : Int), .func (.func 116) #[aggT ao xs.length cap s] #[]] w fun e w' => e = .returned (.int .i64 (r : Int)) ∧ Below w.heap.size w w' :=
  nextPlT _ _ _ enters_loud ao xs.length cap s (plT s) p r w (okL_yes hx).2 hp hlo hr (testLoud xs ao cap s w B h hB hx hs)
theorem nextQuietT (xs : List Int) (ao : Option Addr) (cap : Nat) (s : GSetting) (p r : Nat) (w : World) (B : Nat) (h : Lst (Value.int .i64) w B (.slice ao xs.length cap) xs) (hB : B ≤ w.heap.size) (hx : okL xs = true) (hs : okS s) (hp : p ≤ 100) (hlo : plT s ≤ p) (hr : nxT (quietT xs s s.pOff) xs.length p = r) :
    Calls Try.prog 115 #[aggT ao xs.length cap s, .int .i64 (p : Int), .func (.func 120) #[aggT ao xs.length cap s] #[]] w fun e w' => e = .returned (.int .i64 (r : Int)) ∧ Below w.heap.size w w' :=
  nextPlT _ _ _ enters_quiet ao xs.length cap s (plT s) p r w (okL_yes hx).2 hp hlo hr (testQuiet xs ao cap s w B h hB hx hs)
set_option maxRecDepth 100000 in
set_option maxHeartbeats 2000000 in
theorem firstOnT (xs : List Int) (ao : Option Addr) (cap : Nat) (s : GSetting) (r : Nat) (w : World) (B : Nat) (h : Lst (Value.int .i64) w B (.slice ao xs.length cap) xs) (hB : B ≤ w.heap.size) (hx : okL xs = true) (hs : okS s) (hr : onT xs s s.pOn = r) :
    Calls Try.prog 72 #[aggT ao xs.length cap s] w fun e w' => e = .returned (.int .i64 (r : Int)) ∧ Below w.heap.size w w' := by
  have hmf : ∀ (fn : Fn) (first cap : Array Value) (w : World), (Instr.makeFunc fn first cap).run Try.prog w = .ok (.func fn first cap) w := fun _ _ _ _ => rfl
  have hpl : ((plT s : Nat) : Int) = s.pLong - 1 := by have : plT s = s.pLong.toNat - 1 := rfl; have := hs.1; have := hs.2.1; omega
  have hb1 : 1 ≤ s.pLong ∧ s.pLong ≤ 100 := by have := hs.1; have := hs.2.1; omega
  obtain ⟨W0, hW0⟩ : ∃ W0, w.alloc (.cells #[.slice ao xs.length cap, .int .i64 s.pShort, .int .i64 s.pLong, .int .i64 s.pOn, .int .i64 s.pOff] 78) = W0 := ⟨_, rfl⟩
  have N0 : Below w.heap.size w W0 := hW0 ▸ (Below.refl w.heap.size w).alloc (Nat.le_refl _) _
  have bx : Bx W0 w.heap.size (celT ao xs.length cap s) := hW0 ▸ Bx.new w (celT ao xs.length cap s) 78
  have HN : Hid (∀ W, Below w.heap.size w W → Calls Try.prog 115 #[aggT ao xs.length cap s, .int .i64 (s.pLong - 1), .func (.func 116) #[aggT ao xs.length cap s] #[]] W fun e w' => e = .returned (.int .i64 (r : Int)) ∧ Below W.heap.size W w') :=
    Lib.hid (fun W q => by rw [← hpl]; exact nextLoudT xs ao cap s (plT s) r W B (h.below (q.mono hB)) (Nat.le_trans hB q.size) hx hs (by omega) (Nat.le_refl _) hr)
  clear h hx hs hr hpl
  go_enter Try.func72, Try.ntmps72
  have HS0 : Hid (∀ w', Below W0.heap.size W0 w' → Below W0.heap.size W0 w' ∧ w'.cell? ⟨w.heap.size, 0, none⟩ = some (.slice ao xs.length cap) ∧ w'.cell? ⟨w.heap.size, 1, none⟩ = some (.int .i64 s.pShort) ∧ w'.cell? ⟨w.heap.size, 2, none⟩ = some (.int .i64 s.pLong) ∧ w'.cell? ⟨w.heap.size, 3, none⟩ = some (.int .i64 s.pOn) ∧ w'.cell? ⟨w.heap.size, 4, none⟩ = some (.int .i64 s.pOff)) :=
    Lib.hid (fun w' q => ⟨q, (bx.below q).2 0 _ rfl, (bx.below q).2 1 _ rfl, (bx.below q).2 2 _ rfl, (bx.below q).2 3 _ rfl, (bx.below q).2 4 _ rfl⟩)
  go_wp2
  go_region_held3 (fun w' => Below W0.heap.size W0 w' ∧ w'.cell? ⟨w.heap.size, 0, none⟩ = some (.slice ao xs.length cap) ∧ w'.cell? ⟨w.heap.size, 1, none⟩ = some (.int .i64 s.pShort) ∧ w'.cell? ⟨w.heap.size, 2, none⟩ = some (.int .i64 s.pLong) ∧ w'.cell? ⟨w.heap.size, 3, none⟩ = some (.int .i64 s.pOn) ∧ w'.cell? ⟨w.heap.size, 4, none⟩ = some (.int .i64 s.pOff))
    (first
      | exact HS0.out _ (Below.refl _ _).drew
      | exact HS0.out _ hq2
      | exact HS0.out _ hq4)
    (first
      | (go_at_call 76; refine (firstPlaceT ao xs.length cap s _ hb1.1 hb1.2).mono ?_; rintro e w2 ⟨rfl, hq⟩; have hq2 := (Below.refl W0.heap.size W0).drew.trans hq; clear hq)
      | (go_at_call 115; refine (HN.out _ (N0.trans (hq2.mono N0.size))).mono ?_; rintro e w3 ⟨rfl, hq3⟩; have hq4 := hq2.trans (hq3.mono hq2.size); clear hq2 hq3))
  all_goals (go_wp2; go_ret; exact ⟨rfl, N0.trans (hq4.mono N0.size)⟩)
set_option maxRecDepth 100000 in
set_option maxHeartbeats 2000000 in
/-- A trigger is made of valid samples and a valid setting. -/
theorem triggerForT (xs : List Int) (v : Value) (s : GSetting) (w : World) (B : Nat) (h : Lst (Value.int .i64) w B v xs) (hB : B ≤ w.heap.size) (hw : wfSetting s) (hg : goodTg xs s = true) :
    Calls Try.prog 71 #[v, aggS s] w fun e w' => (∀ ao cap, v = .slice ao xs.length cap → e = .returned (.tuple #[aggT ao xs.length cap s, .bool true])) ∧ Below w.heap.size w w' := by
  obtain ⟨hx, hs⟩ := goodTg_yes hg
  have N0 := ((Below.refl w.heap.size w).alloc (Nat.le_refl _) (.cells #[.int .i64 s.pShort, .int .i64 s.pLong, .int .i64 s.pOn, .int .i64 s.pOff] 28)).alloc (by first | omega | (simp; done) | (simp; omega)) (.cells #[.slice none 0 0, .int .i64 0, .int .i64 0, .int .i64 0, .int .i64 0] 78)
  have bs := (Bx.new w [.int .i64 s.pShort, .int .i64 s.pLong, .int .i64 s.pOn, .int .i64 s.pOff] 28).alloc (.cells #[.slice none 0 0, .int .i64 0, .int .i64 0, .int .i64 0, .int .i64 0] 78)
  have bt := Bx.new1 w (.cells #[.int .i64 s.pShort, .int .i64 s.pLong, .int .i64 s.pOn, .int .i64 s.pOff] 28) [.slice none 0 0, .int .i64 0, .int .i64 0, .int .i64 0, .int .i64 0] 78
  have CA := Lib.hid (implAreSB xs v _ B true (h.below (N0.mono hB)) hx)
  have CS := Lib.hid (fun W => implGoodS s true W (goodS_mk hs) hw)
  obtain ⟨ao, cap, rfl⟩ := h.form
  clear h hg hx hs
  go_enter Try.func71, Try.ntmps71
  go_wp2_with fail
  refine CA.out.mono ?_
  rintro e w9 ⟨rfl, rfl⟩
  go_wp2_with fail
  refine (CS.out _).mono ?_
  rintro e w1 ⟨rfl, hb⟩
  have N1 := N0.trans (hb.mono N0.size)
  have bs1 := bs.below hb
  have bt1 := bt.below hb
  clear hb N0 bs bt
  have c0 := bs1.2 0 _ rfl
  have c1 := bs1.2 1 _ rfl
  have c2 := bs1.2 2 _ rfl
  have c3 := bs1.2 3 _ rfl
  have r0 := bt1.2 0 _ rfl
  have r1 := bt1.2 1 _ rfl
  have r2 := bt1.2 2 _ rfl
  have r3 := bt1.2 3 _ rfl
  have r4 := bt1.2 4 _ rfl
  have rf := bt1.1.2
  go_wp2
  refine bodyPost_ret (v := .tuple #[aggT ao xs.length cap s, .bool true]) (by simp [results, Try.results71, go_sem, r0, r1, r2, r3, r4]) rfl ⟨?_, ?_⟩
  · intro ao' cap' e
    simp only [Value.slice.injEq, true_and] at e
    obtain ⟨rfl, rfl⟩ := e
    rfl
  · exact ((((N1.setCell (by first | omega | (simp; done) | (simp; omega)) _).setCell (by first | omega | (simp; done) | (simp; omega)) _).setCell (by first | omega | (simp; done) | (simp; omega)) _).setCell (by first | omega | (simp; done) | (simp; omega)) _).setCell (by first | omega | (simp; done) | (simp; omega)) _
set_option maxRecDepth 100000 in
set_option maxHeartbeats 2000000 in
theorem triggerNoT (xs : List Int) (v : Value) (s : GSetting) (w : World) (B : Nat) (h : Lst (Value.int .i64) w B v xs) (hB : B ≤ w.heap.size) (hw : wfSetting s) (hg : goodTg xs s = false) :
    Calls Try.prog 71 #[v, aggS s] w fun e w' => e = .returned (.tuple #[.agg #[.slice none 0 0, .int .i64 0, .int .i64 0, .int .i64 0, .int .i64 0], .bool false]) ∧ Below w.heap.size w w' := by
  have N0 := ((Below.refl w.heap.size w).alloc (Nat.le_refl _) (.cells #[.int .i64 s.pShort, .int .i64 s.pLong, .int .i64 s.pOn, .int .i64 s.pOff] 28)).alloc (by first | omega | (simp; done) | (simp; omega)) (.cells #[.slice none 0 0, .int .i64 0, .int .i64 0, .int .i64 0, .int .i64 0] 78)
  have bs := (Bx.new w [.int .i64 s.pShort, .int .i64 s.pLong, .int .i64 s.pOn, .int .i64 s.pOff] 28).alloc (.cells #[.slice none 0 0, .int .i64 0, .int .i64 0, .int .i64 0, .int .i64 0] 78)
  have bt := Bx.new1 w (.cells #[.int .i64 s.pShort, .int .i64 s.pLong, .int .i64 s.pOn, .int .i64 s.pOff] 28) [.slice none 0 0, .int .i64 0, .int .i64 0, .int .i64 0, .int .i64 0] 78
  have r0 := bt.2 0 _ rfl
  have r1 := bt.2 1 _ rfl
  have r2 := bt.2 2 _ rfl
  have r3 := bt.2 3 _ rfl
  have r4 := bt.2 4 _ rfl
  have rf := bt.1.2
  unfold goodTg at hg
  cases hl : okL xs with
  | false =>
    have CA := Lib.hid (implAreSB xs v _ B false (h.below (N0.mono hB)) hl)
    obtain ⟨ao, cap, rfl⟩ := h.form
    clear h hg hl
    go_enter Try.func71, Try.ntmps71
    go_wp2_with fail
    refine CA.out.mono ?_
    rintro e w9 ⟨rfl, rfl⟩
    go_wp2
    refine bodyPost_ret (v := .tuple #[.agg #[.slice none 0 0, .int .i64 0, .int .i64 0, .int .i64 0, .int .i64 0], .bool false]) (by simp [results, Try.results71, go_sem, r0, r1, r2, r3, r4]) rfl ⟨rfl, ?_⟩
    exact N0
  | true =>
    rw [hl, Bool.true_and] at hg
    have CA := Lib.hid (implAreSB xs v _ B true (h.below (N0.mono hB)) hl)
    have CS := Lib.hid (fun W => implGoodS s false W hg hw)
    obtain ⟨ao, cap, rfl⟩ := h.form
    clear h hg hl r0 r1 r2 r3 r4 rf
    go_enter Try.func71, Try.ntmps71
    go_wp2_with fail
    refine CA.out.mono ?_
    rintro e w9 ⟨rfl, rfl⟩
    go_wp2_with fail
    refine (CS.out _).mono ?_
    rintro e w1 ⟨rfl, hb⟩
    have N1 := N0.trans (hb.mono N0.size)
    have bt1 := bt.below hb
    clear hb N0 bs bt
    have r0 := bt1.2 0 _ rfl
    have r1 := bt1.2 1 _ rfl
    have r2 := bt1.2 2 _ rfl
    have r3 := bt1.2 3 _ rfl
    have r4 := bt1.2 4 _ rfl
    have rf := bt1.1.2
    go_wp2
    refine bodyPost_ret (v := .tuple #[.agg #[.slice none 0 0, .int .i64 0, .int .i64 0, .int .i64 0, .int .i64 0], .bool false]) (by simp [results, Try.results71, go_sem, r0, r1, r2, r3, r4]) rfl ⟨rfl, ?_⟩
    exact ((((N1.setCell (by first | omega | (simp; done) | (simp; omega)) _).setCell (by first | omega | (simp; done) | (simp; omega)) _).setCell (by first | omega | (simp; done) | (simp; omega)) _).setCell (by first | omega | (simp; done) | (simp; omega)) _).setCell (by first | omega | (simp; done) | (simp; omega)) _
end Go.Proofs.Ytklilfbokpljkab
