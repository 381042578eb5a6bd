/- Picks: slices.IndexFunc and slices.ContainsFunc with a test that may lay blocks of its own. -/
import Derived.Test.YtklilfbokpljkaaPqH
import Derived.Test.YtklilfbokpljkaaPqI
import Derived.Shelf.GgClosure.Gives
namespace Go.Proofs.Ytklilfbokpljkaa
open Go.ChangeShapes Go.WideShapes Go.ChangeAt Go.RowKit Go.ChangeMaps Go.Sort Go.Shelf
set_option linter.unusedSimpArgs false
set_option linter.unusedVariables false

/-- The first place of a pick that a test takes, or -1. -/
def isPl (pr : GPick → Bool) (xs : List GPick) (r : Int) : Prop := (r = -1 ∧ ∀ s ∈ xs, pr s = false) ∨ ∃ (k : Nat) (s : GPick), r = k ∧ xs[k]? = some s ∧ pr s = true ∧ ∀ j t, xs[j]? = some t → j < k → pr t = false
theorem isPl_of_idx {xs : List GPick} {id r : Int} (h : isIdx xs id r) : isPl (fun s => decide (s.pId = id)) xs r := by
  rcases h with ⟨h1, h2, _⟩ | ⟨k, s, h1, h2, h3, h4, _⟩
  · exact Or.inl ⟨h1, fun s hs => decide_eq_false (h2 s hs)⟩
  · exact Or.inr ⟨k, s, h1, h2, decide_eq_true h3, fun j t ht hj => decide_eq_false (h4 j t ht hj)⟩
theorem isPl_ex (pr : GPick → Bool) (xs : List GPick) : ∃ r, isPl pr xs r := by
  cases h : xs.find? pr with
  | none =>
    rw [List.find?_eq_none] at h
    exact ⟨-1, Or.inl ⟨rfl, fun s hs => by have := h s hs; simpa using this⟩⟩
  | some s =>
    rw [List.find?_eq_some_iff_getElem] at h
    obtain ⟨he, k, hl, hv, hf⟩ := h
    refine ⟨k, Or.inr ⟨k, s, rfl, List.getElem?_eq_some_iff.2 ⟨hl, hv⟩, he, fun j t ht hj => ?_⟩⟩
    have := hf j hj
    obtain ⟨h1, h2⟩ := List.getElem?_eq_some_iff.1 ht
    rw [h2] at this
    simpa using this
theorem isPl_none {pr : GPick → Bool} {xs : List GPick} {r : Int} (h : isPl pr xs r) (hn : ∀ s ∈ xs, pr s = false) : r = -1 := by
  rcases h with ⟨h1, _⟩ | ⟨k, s, _, h2, h3, _⟩
  · exact h1
  · rw [hn s (List.mem_of_getElem? h2)] at h3; cases h3
theorem isPl_first {pr : GPick → Bool} {xs : List GPick} {r : Int} {k : Nat} {s : GPick} (h : isPl pr xs r) (hs : xs[k]? = some s) (hp : pr s = true) (hf : ∀ j t, xs[j]? = some t → j < k → pr t = false) : r = k := by
  rcases h with ⟨_, h2⟩ | ⟨j, t, h1, h2, h3, h4⟩
  · rw [h2 s (List.mem_of_getElem? hs)] at hp; cases hp
  · rcases Nat.lt_trichotomy j k with e | e | e
    · rw [hf j t h2 e] at h3; cases h3
    · rw [h1, e]
    · rw [h4 k s hs e] at hp; cases hp
/-- What is asked of a test: in every world in which all that lay below stays as it was it answers, and turns nothing below. -/
def TestP (g : Nat) (lb : Array Value) (pr : GPick → Bool) (L : Nat) (w : World) : Prop :=
  ∀ (W : World) (s : GPick), Below L w W → Calls Try.prog g (#[.agg #[.int .i64 s.pId, .int .i64 s.pStation, .int .i64 s.pWave, .int .i64 s.pTick, .int .i64 s.pError, .int .i64 s.pBy, .int .i64 s.pAfter]] ++ lb) W fun e w' => e = .returned (.bool (pr s)) ∧ Below W.heap.size W w'
theorem TestP.below {g : Nat} {lb : Array Value} {pr : GPick → Bool} {L : Nat} {w w' : World} (h : TestP g lb pr L w) (hb : Below L w w') : TestP g lb pr L w' := fun W s hW => h W s (hb.trans hW)
set_option maxRecDepth 100000 in
set_option maxHeartbeats 2000000 in
theorem idxFn (pr : GPick → Bool) (g : Nat) (lb : Array Value) (eg : ∀ args w, (callFunc g args).run Try.prog w = .ok (.enter g args) w) (xs : List GPick) (v : Value) (r : Int) (w : World) (L B : Nat) (h : PickL w B v xs) (hB : B ≤ w.heap.size) (hL : L ≤ w.heap.size) (hn : xs.length ≤ 1048576) (hr : isPl pr xs r) (hp : TestP g lb pr L w) :
    Calls Try.prog 182 #[v, .func (.func g) #[] lb] w fun e w' => e = .returned (.int .i64 r) ∧ Below w.heap.size w w' := by
  obtain ⟨ao, cap, rfl, hcap, hmax, hnn, hc⟩ := h
  have HC := Lib.hid hc
  have HR := Lib.hid hr
  have HP := Lib.hid hp
  clear hc hnn hr hp
  go_enter Try.func182, Try.ntmps182
  go_wp2
  go_loopw [8] (fun i wr => ∃ (k : Nat), k ≤ xs.length ∧ i = .int .i64 k ∧ Hid (∀ j s, xs[j]? = some s → j < k → pr s = false) ∧ Below w.heap.size w wr)
    (fun i _ => xs.length - (intOf i).toNat)
  case atStart => exact ⟨0, Nat.zero_le _, rfl, Lib.hid (fun _ _ _ h => by omega), Below.refl _ _⟩
  case round =>
    obtain ⟨k, hk, rfl, HN, hbl⟩ := hrel
    have hsz := hbl.size
    by_cases hlt : k < xs.length
    case neg =>
      obtain rfl : k = xs.length := by omega
      have HX : Hid (-1 = r) := Lib.hid (isPl_none HR.out (fun s hs => by
        obtain ⟨j, hj⟩ := List.mem_iff_getElem?.1 hs
        exact HN.out j s hj (List.getElem?_eq_some_iff.1 hj).1)).symm
      go_wp2
      go_ret
      exact ⟨ret_int HX.out, hbl⟩
    obtain ⟨s, hs⟩ := get_of_lt hlt
    obtain ⟨b, off, rfl, hb, hcell⟩ := HC.out k s hs
    have c0 : wr.cell? ⟨b, off + k * 7, none⟩ = some (.int .i64 s.pId) := cellOf hbl (by omega) (hcell 0 _ rfl)
    have c1 : wr.cell? ⟨b, off + k * 7 + 1, none⟩ = some (.int .i64 s.pStation) := cellOf hbl (by omega) (hcell 1 _ rfl)
    have c2 : wr.cell? ⟨b, off + k * 7 + 2, none⟩ = some (.int .i64 s.pWave) := cellOf hbl (by omega) (hcell 2 _ rfl)
    have c3 : wr.cell? ⟨b, off + k * 7 + 3, none⟩ = some (.int .i64 s.pTick) := cellOf hbl (by omega) (hcell 3 _ rfl)
    have c4 : wr.cell? ⟨b, off + k * 7 + 4, none⟩ = some (.int .i64 s.pError) := cellOf hbl (by omega) (hcell 4 _ rfl)
    have c5 : wr.cell? ⟨b, off + k * 7 + 5, none⟩ = some (.int .i64 s.pBy) := cellOf hbl (by omega) (hcell 5 _ rfl)
    have c6 : wr.cell? ⟨b, off + k * 7 + 6, none⟩ = some (.int .i64 s.pAfter) := cellOf hbl (by omega) (hcell 6 _ rfl)
    have HS := Lib.hid hs
    have hk1 : (k : Int) < (xs.length : Int) := by omega
    clear hs hcell
    have hcall := HP.out wr s (hbl.mono hL)
    cases hq : pr s with
    | true =>
      rw [hq] at hcall
      have HX : Hid ((k : Int) = r) := Lib.hid (isPl_first HR.out HS.out hq HN.out).symm
      clear hq
      go_wp2_with (go_at_fn g; refine hcall.mono ?_; rintro e w2 ⟨rfl, hb2⟩)
      go_ret
      exact ⟨ret_int HX.out, hbl.trans (hb2.mono hsz)⟩
    | false =>
      rw [hq] at hcall
      have HN2 : Hid (∀ j t, xs[j]? = some t → j < k + 1 → pr t = false) := Lib.hid (fun j t ht hj => by
        by_cases e : j = k
        · subst e; have := HS.out; rw [ht] at this; cases this; exact hq
        · exact HN.out j t ht (by omega))
      clear hq
      go_wp2_with (go_at_fn g; refine hcall.mono ?_; rintro e w2 ⟨rfl, hb2⟩)
      go_roundw
      case rel => exact ⟨k + 1, by omega, by go_num, HN2, hbl.trans (hb2.mono hsz)⟩
      case measure => simp [intOf]; omega

theorem any_idx {pr : GPick → Bool} {xs : List GPick} {r : Int} (h : isPl pr xs r) : xs.any pr = decide (0 ≤ r) := by
  rcases h with ⟨rfl, h2⟩ | ⟨k, s, rfl, h2, h3, _⟩
  · rw [List.any_eq_false.2 (fun s hs => by rw [h2 s hs]; simp)]; rfl
  · rw [List.any_eq_true.2 ⟨s, List.mem_of_getElem? h2, h3⟩]
    exact (decide_eq_true (by omega)).symm
theorem contFn (pr : GPick → Bool) (g : Nat) (lb : Array Value) (eg : ∀ args w, (callFunc g args).run Try.prog w = .ok (.enter g args) w) (xs : List GPick) (v : Value) (r : Bool) (w : World) (L B : Nat) (h : PickL w B v xs) (hB : B ≤ w.heap.size) (hL : L ≤ w.heap.size) (hn : xs.length ≤ 1048576) (hr : xs.any pr = r) (hp : TestP g lb pr L w) :
    Calls Try.prog 190 #[v, .func (.func g) #[] lb] w fun e w' => e = .returned (.bool r) ∧ Below w.heap.size w w' := by
  obtain ⟨i, hi⟩ := isPl_ex pr xs
  have HR : Hid (decide (0 ≤ i) = r) := Lib.hid ((any_idx hi).symm.trans hr)
  have C := Lib.hid (idxFn pr g lb eg xs v i w L B h hB hL hn hi hp)
  clear hr hi hp
  obtain ⟨ao, cap, rfl⟩ := h.form
  go_enter Try.func190, Try.ntmps190
  go_wp2_with fail
  refine C.out.mono ?_
  rintro e w1 ⟨rfl, hb⟩
  go_wp2
  go_ret
  exact ⟨ret_bool HR.out, hb⟩
set_option maxHeartbeats 400000 in
theorem testId (id : Int) (bf L : Nat) (w : World) (hc : w.cell? ⟨bf, 0, none⟩ = some (.int .i64 id)) (hL : bf < L) : TestP 183 #[.pointer (some ⟨bf, 0, none⟩)] (fun s => decide (s.pId = id)) L w := by
  intro W s hW
  have hc' : W.cell? ⟨bf, 0, none⟩ = some (.int .i64 id) := cellOf hW hL hc
  show Calls _ _ #[.agg #[.int .i64 s.pId, .int .i64 s.pStation, .int .i64 s.pWave, .int .i64 s.pTick, .int .i64 s.pError, .int .i64 s.pBy, .int .i64 s.pAfter], .pointer (some ⟨bf, 0, none⟩)] _ _
  have HV : Hid ((s.pId == id) = decide (s.pId = id)) := Lib.hid (by by_cases h : s.pId = id <;> simp [h])
  have hlt := cell_of_lt hc'
  clear hW hc
  go_enter Try.func183, Try.ntmps183
  go_wp2
  go_ret
  exact ⟨ret_bool HV.out, below_cell (Nat.le_refl _) _⟩
set_option maxHeartbeats 400000 in
theorem testAfter (id : Int) (bp L : Nat) (w : World) (hc : w.cell? ⟨bp, 0, none⟩ = some (.int .i64 id)) (hL : bp < L) : TestP 191 #[.pointer (some ⟨bp, 0, none⟩)] (fun s => decide (s.pAfter = id)) L w := by
  intro W s hW
  have hc' : W.cell? ⟨bp, 0, none⟩ = some (.int .i64 id) := cellOf hW hL hc
  show Calls _ _ #[.agg #[.int .i64 s.pId, .int .i64 s.pStation, .int .i64 s.pWave, .int .i64 s.pTick, .int .i64 s.pError, .int .i64 s.pBy, .int .i64 s.pAfter], .pointer (some ⟨bp, 0, none⟩)] _ _
  have HV : Hid ((s.pAfter == id) = decide (s.pAfter = id)) := Lib.hid (by by_cases h : s.pAfter = id <;> simp [h])
  have hlt := cell_of_lt hc'
  clear hW hc
  go_enter Try.func191, Try.ntmps191
  go_wp2
  go_ret
  exact ⟨ret_bool HV.out, below_cell (Nat.le_refl _) _⟩
theorem enters_id : ∀ args w, (callFunc 183 args).run Try.prog w = .ok (.enter 183 args) w := enters_of Try.func183 (by kernel_rfl) rfl
theorem enters_after : ∀ args w, (callFunc 191 args).run Try.prog w = .ok (.enter 191 args) w := enters_of Try.func191 (by kernel_rfl) rfl
theorem curB_any (xs : List GPick) (id : Int) : curB xs id = !(xs.any fun s => decide (s.pAfter = id)) := by
  unfold curB; rw [List.not_any_eq_all_not]
theorem implCur (xs : List GPick) (v : Value) (p : GPick) (r : Bool) (w : World) (B : Nat) (h : PickL w B v xs) (hB : B ≤ w.heap.size) (hn : xs.length ≤ 1048576) (hr : curB xs p.pId = r) :
    Calls Try.prog 178 #[v, .agg #[.int .i64 p.pId, .int .i64 p.pStation, .int .i64 p.pWave, .int .i64 p.pTick, .int .i64 p.pError, .int .i64 p.pBy, .int .i64 p.pAfter]] w fun e w' => e = .returned (.bool r) ∧ Below w.heap.size w w' := by
  have N := Lib.hid (below_cell (w := w) (Nat.le_refl _) (.cells #[.int .i64 p.pId, .int .i64 p.pStation, .int .i64 p.pWave, .int .i64 p.pTick, .int .i64 p.pError, .int .i64 p.pBy, .int .i64 p.pAfter] 76))
  have bx : Bx (w.alloc (.cells #[.int .i64 p.pId, .int .i64 p.pStation, .int .i64 p.pWave, .int .i64 p.pTick, .int .i64 p.pError, .int .i64 p.pBy, .int .i64 p.pAfter] 76)) w.heap.size (encPick p) := Bx.new w (encPick p) 76
  have c0 := bx.2 0 _ rfl
  generalize ha : (xs.any fun s => decide (s.pAfter = p.pId)) = a
  have HR : Hid ((!a) = r) := Lib.hid (by rw [← ha, ← curB_any]; exact hr)
  have C := Lib.hid (contFn _ _ #[.pointer (some ⟨w.heap.size, 0, none⟩)] enters_after xs v a (w.alloc (.cells #[.int .i64 p.pId, .int .i64 p.pStation, .int .i64 p.pWave, .int .i64 p.pTick, .int .i64 p.pError, .int .i64 p.pBy, .int .i64 p.pAfter] 76)) (w.heap.size + 1) B (h.below (N.out.mono hB)) (Nat.le_trans hB N.out.size) (by first | omega | (simp; done) | (simp; omega)) hn ha (testAfter p.pId w.heap.size _ _ c0 (by omega)))
  clear c0 bx ha hr
  obtain ⟨ao, cap, rfl⟩ := h.form
  go_enter Try.func178, Try.ntmps178
  go_wp2_with fail
  refine C.out.mono ?_
  rintro e w1 ⟨rfl, hb⟩
  go_wp2
  go_ret
  exact ⟨ret_bool HR.out, N.out.trans (hb.mono N.out.size)⟩
end Go.Proofs.Ytklilfbokpljkaa
