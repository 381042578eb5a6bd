/- A mark put into a track: the specification. -/
import Derived.Test.YtklilfbokpljkacTkS
import Derived.Test.YtklilfbokpljkacIns
namespace Go.Proofs.Ytklilfbokpljkac
open Go.ChangeShapes Go.WideShapes Go.ChangeAt Go.RowKit Go.ChangeMaps Go.Sort
set_option linter.unusedSimpArgs false
set_option linter.unusedVariables false

theorem oneCM (xs : List GClockMark) : ∀ u ∈ xs.flatMap encClockMark, u.oneCell' = true := oneClockMark xs
theorem tw_at {α : Type} {p : α → Bool} : ∀ (xs : List α) (k : Nat), (∀ i a, i < k → xs[i]? = some a → p a = true) → k ≤ xs.length → (∀ a, xs[k]? = some a → p a = false) → xs.takeWhile p = xs.take k ∧ xs.dropWhile p = xs.drop k
  | [], k, _, hk, _ => by simp
  | a :: r, 0, _, _, h2 => by
    have := h2 a rfl
    simp [List.takeWhile, List.dropWhile, this]
  | a :: r, k + 1, h1, hk, h2 => by
    have e := h1 0 a (by omega) rfl
    have ih := tw_at r k (fun i b hi hb => h1 (i + 1) b (by omega) (by simpa using hb)) (by simpa using hk) (fun b hb => h2 b (by simpa using hb))
    simp [List.takeWhile, List.dropWhile, e, ih.1, ih.2]
theorem putTk_at {xs : List GClockMark} {m : GClockMark} {k : Nat} (h1 : ∀ i a, i < k → xs[i]? = some a → a.pShown < m.pShown) (hk : k ≤ xs.length) (h2 : ∀ a, xs[k]? = some a → ¬ a.pShown < m.pShown) : putTk xs m = xs.take k ++ m :: xs.drop k := by
  have := tw_at (p := fun a : GClockMark => decide (a.pShown < m.pShown)) xs k (fun i a hi ha => decide_eq_true (h1 i a hi ha)) hk (fun a ha => decide_eq_false (h2 a ha))
  unfold putTk
  rw [this.1, this.2]
theorem flat_takeM {α : Type} {en : α → List Value} {K : Nat} (hK : ∀ x, (en x).length = K) : ∀ (l : List α) (k : Nat), ((l.flatMap en).take (k * K)) = (l.take k).flatMap en
  | [], k => by simp
  | a :: l, 0 => by simp
  | a :: l, k + 1 => by
    rw [List.take_succ_cons, List.flatMap_cons, List.flatMap_cons, ← flat_takeM hK l k, List.take_append, hK, List.take_of_length_le (by rw [hK, Nat.add_mul]; omega), show (k + 1) * K - K = k * K by rw [Nat.add_mul]; omega]
theorem flat_dropM {α : Type} {en : α → List Value} {K : Nat} (hK : ∀ x, (en x).length = K) : ∀ (l : List α) (k : Nat), ((l.flatMap en).drop (k * K)) = (l.drop k).flatMap en
  | [], k => by simp
  | a :: l, 0 => by simp
  | a :: l, k + 1 => by
    rw [List.drop_succ_cons, List.flatMap_cons, ← flat_dropM hK l k, List.drop_append, hK, List.drop_of_length_le (by rw [hK, Nat.add_mul]; omega), show (k + 1) * K - K = k * K by rw [Nat.add_mul]; omega, List.nil_append]
theorem src_mid {w w3 : World} {B b off : Nat} {xs : List GClockMark} (hc : ∀ j u, (xs.flatMap encClockMark)[j]? = some u → ((⟨b, off, none⟩ : Addr).add j).block < B ∧ w.cell? ((⟨b, off, none⟩ : Addr).add j) = some u) (hB : B ≤ w.heap.size) (hbl : Below w.heap.size w w3) (i k c : Nat) (hik : i ≤ k) (hk : k ≤ xs.length) :
    SrcK w3 2 (.slice (some ⟨b, off + i * 2, none⟩) (k - i) c) (k - i) (((xs.drop i).take (k - i)).flatMap encClockMark) := by
  have hlen : (((xs.drop i).take (k - i)).flatMap encClockMark).length = (k - i) * 2 := by rw [flat_len encClockMark_len, List.length_take, List.length_drop]; congr 1; omega
  refine ⟨_, _, rfl, hlen, fun j u hu => ?_, fun u hu => oneCM _ u hu⟩
  rw [← flat_takeM encClockMark_len, ← flat_dropM encClockMark_len, List.getElem?_take] at hu
  split at hu
  · rw [List.getElem?_drop] at hu
    obtain ⟨h1, h2⟩ := hc _ _ hu
    rw [Addr.add_lit] at h1 h2 ⊢
    have h3 := cellOf hbl (Nat.lt_of_lt_of_le h1 hB) h2
    rwa [← Nat.add_assoc] at h3
  · cases hu
set_option maxRecDepth 100000 in
set_option maxHeartbeats 4000000 in
theorem specPut (xs : List GClockMark) (v : Value) (m : GClockMark) (w : World) (B : Nat) (h : ClockMarkL w B v xs) (hB : B ≤ w.heap.size) (hl1 : 1 ≤ xs.length) (hl2 : xs.length ≤ 100) :
    Calls Try.prog 117 #[v, .agg #[.int .i64 m.pShown, .int .i64 m.pTrue]] w fun e w' => ∃ v', e = .returned v' ∧ ClockMarkO w' w.heap.size w'.heap.size v' (putTk xs m) ∧ Below w.heap.size w w' := by
  obtain ⟨ti, hi, hz0, hz1, hz2⟩ := info_parts info_ClockMark
  rcases h.split encClockMark_len (by omega) with ⟨-, e1⟩ | ⟨a, cap, rfl, hcap, hmax, hcc⟩
  · rw [e1] at hl1; simp at hl1
  unfold maxLen at hmax
  have hal : ∃ ab ao, a = ⟨ab, ao, none⟩ := by
    obtain ⟨ao, cap', e, _, _, _, hc⟩ := h
    obtain ⟨x, hx⟩ := get_of_lt (l := xs) (k := 0) (by omega)
    obtain ⟨b, off, e2, _⟩ := hc 0 x hx
    simp only [Value.slice.injEq] at e
    rw [e2] at e
    exact ⟨b, off, by simpa using e.1⟩
  obtain ⟨b, off, rfl⟩ := hal
  have hcell : ∀ k x, xs[k]? = some x → b < B ∧ ∀ j c, (encClockMark x)[j]? = some c → w.cell? ⟨b, off + k * 2 + j, none⟩ = some c := fun k x hx => LstK.at h hx
  have HX := Lib.hid hcell
  have HCC := Lib.hid hcc
  clear h hcell hcc
  have hl9 : (xs.length : Int) ≤ 100 := by omega
  have hbx := Bx.new w (encClockMark m) 50
  have C1 := (Below.refl w.heap.size w).alloc (Nat.le_refl _) (.cells #[.int .i64 m.pShown, .int .i64 m.pTrue] 50)
  go_enter Try.func117, Try.ntmps117
  go_wp2
  go_loopw [5] (fun i wr => ∃ k : Nat, k ≤ xs.length ∧ i = .int .i64 k ∧ (∀ i a, i < k → xs[i]? = some a → a.pShown < m.pShown) ∧ Below w.heap.size w wr ∧ Bx wr w.heap.size (encClockMark m))
    (fun i _ => xs.length - (intOf i).toNat)
  case atStart => exact ⟨0, Nat.zero_le _, rfl, fun i a hi => by omega, C1, hbx⟩
  case round =>
    obtain ⟨k, hk, rfl, hlow, hbl, hb⟩ := hrel
    have hbc := hb.2
    have mc0 : wr.cell? ⟨w.heap.size, 0, none⟩ = some (.int .i64 m.pShown) := hbc 0 _ rfl
    have mc1 : wr.cell? ⟨w.heap.size, 1, none⟩ = some (.int .i64 m.pTrue) := hbc 1 _ rfl
    clear hbc
    have hsz := hbl.size
    have kp0 : (0 : Int) ≤ (k : Int) := by omega
    by_cases hlt : k < xs.length
    · obtain ⟨p, hp⟩ := get_of_lt hlt
      obtain ⟨hbb, hcell⟩ := HX.out k p hp
      have c0 : wr.cell? ⟨b, off + k * 2, none⟩ = some (.int .i64 p.pShown) := cellOf hbl (by omega) (hcell 0 _ rfl)
      have kp1 : (k : Int) < (xs.length : Int) := by omega
      by_cases hle : p.pShown < m.pShown
      · have HLO : Hid (∀ i a, i < k + 1 → xs[i]? = some a → a.pShown < m.pShown) := Lib.hid (fun i a hi ha => by
          by_cases q : i = k
          · rw [q, hp] at ha; cases ha; exact hle
          · exact hlow i a (by omega) ha)
        clear hlow hp hcell
        go_wp2
        go_quiet (fail)
        have hbl2 := drewN_b hbl nq
        have hb2 : Bx (wr.drewN nq) w.heap.size (encClockMark m) := hb.below (drewN_b (Below.refl _ _) nq)
        have hsz2 : w.heap.size ≤ (wr.drewN nq).heap.size := hsz
        generalize wr.drewN nq = w3 at *
        clear mc0 mc1 c0 hbl hb
        go_wp2
        go_roundw
        case rel => exact ⟨k + 1, by omega, by go_num, HLO.out, hbl2, hb2⟩
        case measure => simp [intOf]; omega
      · have HPUT : Hid (putTk xs m = xs.take k ++ m :: xs.drop k) := Lib.hid (putTk_at hlow hk (fun a ha => by rw [hp] at ha; cases ha; exact hle))
        clear hlow hp hcell
        have hkc : ¬ k = cap := by omega
        have hkc4 : ¬ cap = k := by omega
        go_wp2
        go_quiet (fail)
        have hbl2 := drewN_b hbl nq
        have hb2 : Bx (wr.drewN nq) w.heap.size (encClockMark m) := hb.below (drewN_b (Below.refl _ _) nq)
        have hsz2 : w.heap.size ≤ (wr.drewN nq).heap.size := hsz
        generalize wr.drewN nq = w3 at *
        clear mc0 mc1 c0 hbl hb
        have e0 : w3.cell? ⟨w.heap.size, 0, none⟩ = some (.int .i64 m.pShown) := hb2.2 0 _ rfl
        have e1 : w3.cell? ⟨w.heap.size, 1, none⟩ = some (.int .i64 m.pTrue) := hb2.2 1 _ rfl
        have KA : Below w3.heap.size w3 (w3.alloc (.cells #[] 50)).drew := ((Below.refl _ _).alloc (Nat.le_refl _) _).drew
        have KA1 : Below w3.heap.size w3 ((w3.alloc (.cells #[] 50)).alloc (.cells #[.int .i64 m.pShown, .int .i64 m.pTrue] 50)).drew := (((Below.refl _ _).alloc (Nat.le_refl _) _).alloc (by first | omega | (simp; done) | (simp; omega)) _).drew
        have KB : Below w3.heap.size w3 (w3.alloc (.cells #[.int .i64 m.pShown, .int .i64 m.pTrue] 50)).drew := ((Below.refl _ _).alloc (Nat.le_refl _) _).drew
        have KB0 : Below w3.heap.size w3 ((w3.alloc (.cells #[.int .i64 m.pShown, .int .i64 m.pTrue] 50)).alloc (.cells #[] 50)).drew := (((Below.refl _ _).alloc (Nat.le_refl _) _).alloc (by first | omega | (simp; done) | (simp; omega)) _).drew
        have rA : (w3.alloc (.cells #[] 50)).drew.ownsRow w3.heap.size 50 2 (.slice (some ⟨w3.heap.size, 0, none⟩) 0 0) 0 [] := rowK_empty w3 _ _ (Nat.le_refl _)
        have rA1 : ((w3.alloc (.cells #[] 50)).alloc (.cells #[.int .i64 m.pShown, .int .i64 m.pTrue] 50)).drew.ownsRow w3.heap.size 50 2 (.slice (some ⟨w3.heap.size, 0, none⟩) 0 0) 0 [] := (rowK_empty w3 _ _ (Nat.le_refl _)).alloc _
        have rB0 : ((w3.alloc (.cells #[.int .i64 m.pShown, .int .i64 m.pTrue] 50)).alloc (.cells #[] 50)).drew.ownsRow w3.heap.size 50 2 (.slice (some ⟨w3.heap.size + 1, 0, none⟩) 0 0) 0 [] := by
          have h9 : ((w3.alloc (.cells #[.int .i64 m.pShown, .int .i64 m.pTrue] 50)).alloc (.cells #[] 50)).ownsRow w3.heap.size 50 2 (.slice (some ⟨w3.heap.size + 1, 0, none⟩) 0 0) 0 [] := by
            have := rowK_empty (w3.alloc (.cells #[.int .i64 m.pShown, .int .i64 m.pTrue] 50)) (base := w3.heap.size) 50 2 (by first | omega | (simp; done) | (simp; omega))
            simpa using this
          exact h9
        have bA1 : Bx ((w3.alloc (.cells #[] 50)).alloc (.cells #[.int .i64 m.pShown, .int .i64 m.pTrue] 50)).drew (w3.heap.size + 1) (encClockMark m) := Bx.new1 w3 (.cells #[] 50) (encClockMark m) 50
        have bB0 : Bx ((w3.alloc (.cells #[.int .i64 m.pShown, .int .i64 m.pTrue] 50)).alloc (.cells #[] 50)).drew w3.heap.size (encClockMark m) := (Bx.new w3 (encClockMark m) 50).alloc _
        have q1 : SrcK w3 2 (.slice (some ⟨b, off, none⟩) k cap) k ((xs.take k).flatMap encClockMark) := by
          have := src_mid HCC.out hB hbl2 0 k cap (Nat.zero_le _) hk
          simpa using this
        have q2 : SrcK w3 2 (.slice (some ⟨b, off + k * 2, none⟩) (xs.length - k) (cap - k)) (xs.length - k) ((xs.drop k).flatMap encClockMark) := by
          have := src_mid HCC.out hB hbl2 k xs.length (cap - k) hk (Nat.le_refl _)
          rwa [List.take_of_length_le (by rw [List.length_drop]; exact Nat.le_refl _)] at this
        have one1 : ∀ u ∈ encClockMark m, u.oneCell' = true := by intro u hu; exact oneCM [m] u (by simpa using hu)
        have hS : ∀ w', Below w3.heap.size w3 w' → Below w3.heap.size w3 w' ∧ w'.cell? ⟨w.heap.size, 0, none⟩ = some (.int .i64 m.pShown) ∧ w'.cell? ⟨w.heap.size, 1, none⟩ = some (.int .i64 m.pTrue) := fun w' q => ⟨q, cellOf q (cell_of_lt e0) e0, cellOf q (cell_of_lt e1) e1⟩
        have HS0 := Lib.hid hS
        have Q1 := Lib.hid q1
        have Q2 := Lib.hid q2
        have ONE := Lib.hid one1
        clear hS q1 q2 one1
        have hcm7 : (xs.length : Int) ≤ (cap : Int) := by omega
        have hcm8 : ¬ (cap : Int) < (k : Int) := by omega
        have hcm9 : ¬ (xs.length : Int) < (k : Int) := by omega
        have hcm2 : (k : Int) ≤ (xs.length : Int) := by omega
        have hcm3 : k ≤ xs.length := hk
        have hcm5 : (k : Int) ≤ (cap : Int) := by omega
        have hcm6 : k ≤ cap := by omega
        go_wp2
        go_region_held3 (fun w' => Below w3.heap.size w3 w' ∧ w'.cell? ⟨w.heap.size, 0, none⟩ = some (.int .i64 m.pShown) ∧ w'.cell? ⟨w.heap.size, 1, none⟩ = some (.int .i64 m.pTrue))
          (first
            | exact HS0.out _ (Below.refl _ _).drew
            | exact HS0.out _ (by with_reducible assumption))
          (first
            | (refine step_append_srcK (((w3.alloc (.cells #[] 50)).alloc (.cells #[.int .i64 m.pShown, .int .i64 m.pTrue] 50)).drew) (by rfl) _ _ _ (by rfl) w3.heap.size 50 ti (.agg #[.int .i64 0, .int .i64 0]) 2 16 Try.underlying45 hi hz0 hz1 hz2 rfl (by decide) _ (0) ([]) (by rfl) (rA1) _ (k) _ (by rfl) (Q1.out.below KA1) (by unfold maxLen; omega) (by omega) (by first | omega | (simp; done) | (simp; omega)) ?_; intro v5 w5 hr5 hg5 hat5; have B5 : Below w3.heap.size w3 w5 := Below.grown KA1 hg5 (by first | omega | (simp; done) | (simp; omega)) (by intro q hq; cases hq; simp); have r5 : w5.ownsRow w3.heap.size 50 2 v5 k ((xs.take k).flatMap encClockMark) := (by simpa using hr5); have z5 := B5.size; have b5 := bA1.grown (row := some w3.heap.size) hg5 (by simp); clear hr5 hg5 hat5)
            | (refine step_append_srcK (((w3.alloc (.cells #[.int .i64 m.pShown, .int .i64 m.pTrue] 50)).alloc (.cells #[] 50)).drew) (by rfl) _ _ _ (by rfl) w3.heap.size 50 ti (.agg #[.int .i64 0, .int .i64 0]) 2 16 Try.underlying45 hi hz0 hz1 hz2 rfl (by decide) _ (0) ([]) (by rfl) (rB0) _ (k) _ (by rfl) (Q1.out.below KB0) (by unfold maxLen; omega) (by omega) (by first | omega | (simp; done) | (simp; omega)) ?_; intro v5 w5 hr5 hg5 hat5; have B5 : Below w3.heap.size w3 w5 := Below.grown KB0 hg5 (by first | omega | (simp; done) | (simp; omega)) (by intro q hq; cases hq; simp); have r5 : w5.ownsRow w3.heap.size 50 2 v5 k ((xs.take k).flatMap encClockMark) := (by simpa using hr5); have z5 := B5.size; have b5 := bB0.grown (row := some (w3.heap.size + 1)) hg5 (by simp); clear hr5 hg5 hat5)
            | (refine step_append_srcK ((w3.alloc (.cells #[] 50)).drew) (by rfl) _ _ _ (by rfl) w3.heap.size 50 ti (.agg #[.int .i64 0, .int .i64 0]) 2 16 Try.underlying45 hi hz0 hz1 hz2 rfl (by decide) _ (0) ([]) (by rfl) (rA) _ (k) _ (by rfl) (Q1.out.below KA) (by unfold maxLen; omega) (by omega) (by first | omega | (simp; done) | (simp; omega)) ?_; intro v5 w5 hr5 hg5 hat5; have B5 : Below w3.heap.size w3 w5 := Below.grown KA hg5 (by first | omega | (simp; done) | (simp; omega)) (by intro q hq; cases hq; simp); have r5 : w5.ownsRow w3.heap.size 50 2 v5 k ((xs.take k).flatMap encClockMark) := (by simpa using hr5); have z5 := B5.size; have K5 : Below w3.heap.size w3 (w5.alloc (.cells #[.int .i64 m.pShown, .int .i64 m.pTrue] 50)) := B5.alloc B5.size _; have b5V : Bx (w5.alloc (.cells #[.int .i64 m.pShown, .int .i64 m.pTrue] 50)) w5.heap.size (encClockMark m) := Bx.new w5 (encClockMark m) 50; clear hr5 hg5 hat5)
            | (refine step_append_srcK (w5) (by rfl) _ _ _ (by rfl) w3.heap.size 50 ti (.agg #[.int .i64 0, .int .i64 0]) 2 16 Try.underlying45 hi hz0 hz1 hz2 rfl (by decide) _ (k) ((xs.take k).flatMap encClockMark) (by rfl) (r5) _ (1) _ (by rfl) (srcK_box b5 ONE.out) (by unfold maxLen; omega) (by omega) (z5) ?_; intro v6 w6 hr6 hg6 hat6; have B6 : Below w3.heap.size w3 w6 := Below.grown B5 hg6 (by first | omega | (simp; done) | (simp; omega)) (fun q hq => (r5.lt q hq).1); have r6 : w6.ownsRow w3.heap.size 50 2 v6 (k + 1) (((xs.take k).flatMap encClockMark) ++ encClockMark m) := hr6; have z6 := B6.size; clear hr6 hg6 hat6)
            | (refine step_append_srcK (w5.alloc (.cells #[.int .i64 m.pShown, .int .i64 m.pTrue] 50)) (by rfl) _ _ _ (by rfl) w3.heap.size 50 ti (.agg #[.int .i64 0, .int .i64 0]) 2 16 Try.underlying45 hi hz0 hz1 hz2 rfl (by decide) _ (k) ((xs.take k).flatMap encClockMark) (by rfl) (r5.alloc _) _ (1) _ (by rfl) (srcK_box b5V ONE.out) (by unfold maxLen; omega) (by omega) (by first | omega | (simp; done) | (simp; omega)) ?_; intro v6 w6 hr6 hg6 hat6; have B6 : Below w3.heap.size w3 w6 := Below.grown K5 hg6 (by first | omega | (simp; done) | (simp; omega)) (fun q hq => (r5.lt q hq).1); have r6 : w6.ownsRow w3.heap.size 50 2 v6 (k + 1) (((xs.take k).flatMap encClockMark) ++ encClockMark m) := hr6; have z6 := B6.size; clear hr6 hg6 hat6)
            | (refine step_append_srcK (w6) (by rfl) _ _ _ (by rfl) w3.heap.size 50 ti (.agg #[.int .i64 0, .int .i64 0]) 2 16 Try.underlying45 hi hz0 hz1 hz2 rfl (by decide) _ (k + 1) (((xs.take k).flatMap encClockMark) ++ encClockMark m) (by rfl) (r6) _ ((xs.length - k)) _ (by rfl) (Q2.out.below B6) (by unfold maxLen; omega) (by omega) (z6) ?_; intro v7 w7 hr7 hg7 hat7; have B7 : Below w3.heap.size w3 w7 := Below.grown B6 hg7 (by first | omega | (simp; done) | (simp; omega)) (fun q hq => (r6.lt q hq).1); have r7 : w7.ownsRow w3.heap.size 50 2 v7 (k + 1 + (xs.length - k)) (((xs.take k).flatMap encClockMark) ++ encClockMark m ++ ((xs.drop k).flatMap encClockMark)) := hr7; have z7 := B7.size; clear hr7 hg7 hat7))
        all_goals
          obtain ⟨g7, cap7, rfl, hc7, hm7, hL7, -⟩ := row_some r7 (by omega)
          have r8 : w7.ownsRow w.heap.size 50 2 (.slice (some ⟨g7, 0, none⟩) (k + 1 + (xs.length - k)) cap7) (k + 1 + (xs.length - k)) ((putTk xs m).flatMap encClockMark) := by
            have := Go.Joins.ownsRow_le r7 (base' := w.heap.size) (by omega)
            rw [HPUT.out]
            simpa [List.flatMap_append, List.flatMap_cons, List.append_assoc] using this
          have C7 : Below w.heap.size w w7 := hbl2.trans (B7.mono hsz2)
          clear r7
          go_wp2
          go_ret
          exact ⟨_, rfl, OwnK.of_row encClockMark_len (by omega) r8, C7⟩
    · have hkl : k = xs.length := by omega
      have HPUT : Hid (putTk xs m = xs.take k ++ m :: xs.drop k) := Lib.hid (putTk_at hlow hk (fun a ha => by rw [hkl, List.getElem?_eq_none (Nat.le_refl _)] at ha; cases ha))
      have hnl : ¬ (k : Int) < (xs.length : Int) := by omega
      clear hlow
      by_cases hkc : k = cap
      · have HDR : Hid (xs.drop k = []) := Lib.hid (by rw [hkl, List.drop_length])
        have HSM : Hid (∀ w3, Below w.heap.size w w3 → ∀ c, SrcK w3 2 (.slice (some ⟨b, off + 0 * 2, none⟩) (k - 0) c) (k - 0) (((xs.drop 0).take (k - 0)).flatMap encClockMark)) := Lib.hid (fun w3 hb c => src_mid HCC.out hB hb 0 k c (Nat.zero_le _) hk)
        generalize hN : xs.length = N at *
        obtain rfl : k = N := by omega
        obtain rfl : k = cap := hkc
        clear hN
        go_wp2
        go_quiet (fail)
        have hbl2 := drewN_b hbl nq
        have hb2 : Bx (wr.drewN nq) w.heap.size (encClockMark m) := hb.below (drewN_b (Below.refl _ _) nq)
        have hsz2 : w.heap.size ≤ (wr.drewN nq).heap.size := hsz
        generalize wr.drewN nq = w3 at *
        clear mc0 mc1 hbl hb
        go_wp2
        have e0 : w3.cell? ⟨w.heap.size, 0, none⟩ = some (.int .i64 m.pShown) := hb2.2 0 _ rfl
        have e1 : w3.cell? ⟨w.heap.size, 1, none⟩ = some (.int .i64 m.pTrue) := hb2.2 1 _ rfl
        have KA : Below w3.heap.size w3 (w3.alloc (.cells #[] 50)).drew := ((Below.refl _ _).alloc (Nat.le_refl _) _).drew
        have KA1 : Below w3.heap.size w3 ((w3.alloc (.cells #[] 50)).alloc (.cells #[.int .i64 m.pShown, .int .i64 m.pTrue] 50)).drew := (((Below.refl _ _).alloc (Nat.le_refl _) _).alloc (by first | omega | (simp; done) | (simp; omega)) _).drew
        have KB : Below w3.heap.size w3 (w3.alloc (.cells #[.int .i64 m.pShown, .int .i64 m.pTrue] 50)).drew := ((Below.refl _ _).alloc (Nat.le_refl _) _).drew
        have KB0 : Below w3.heap.size w3 ((w3.alloc (.cells #[.int .i64 m.pShown, .int .i64 m.pTrue] 50)).alloc (.cells #[] 50)).drew := (((Below.refl _ _).alloc (Nat.le_refl _) _).alloc (by first | omega | (simp; done) | (simp; omega)) _).drew
        have rA : (w3.alloc (.cells #[] 50)).drew.ownsRow w3.heap.size 50 2 (.slice (some ⟨w3.heap.size, 0, none⟩) 0 0) 0 [] := rowK_empty w3 _ _ (Nat.le_refl _)
        have rA1 : ((w3.alloc (.cells #[] 50)).alloc (.cells #[.int .i64 m.pShown, .int .i64 m.pTrue] 50)).drew.ownsRow w3.heap.size 50 2 (.slice (some ⟨w3.heap.size, 0, none⟩) 0 0) 0 [] := (rowK_empty w3 _ _ (Nat.le_refl _)).alloc _
        have rB0 : ((w3.alloc (.cells #[.int .i64 m.pShown, .int .i64 m.pTrue] 50)).alloc (.cells #[] 50)).drew.ownsRow w3.heap.size 50 2 (.slice (some ⟨w3.heap.size + 1, 0, none⟩) 0 0) 0 [] := by
          have h9 : ((w3.alloc (.cells #[.int .i64 m.pShown, .int .i64 m.pTrue] 50)).alloc (.cells #[] 50)).ownsRow w3.heap.size 50 2 (.slice (some ⟨w3.heap.size + 1, 0, none⟩) 0 0) 0 [] := by
            have := rowK_empty (w3.alloc (.cells #[.int .i64 m.pShown, .int .i64 m.pTrue] 50)) (base := w3.heap.size) 50 2 (by first | omega | (simp; done) | (simp; omega))
            simpa using this
          exact h9
        have bA1 : Bx ((w3.alloc (.cells #[] 50)).alloc (.cells #[.int .i64 m.pShown, .int .i64 m.pTrue] 50)).drew (w3.heap.size + 1) (encClockMark m) := Bx.new1 w3 (.cells #[] 50) (encClockMark m) 50
        have bB0 : Bx ((w3.alloc (.cells #[.int .i64 m.pShown, .int .i64 m.pTrue] 50)).alloc (.cells #[] 50)).drew w3.heap.size (encClockMark m) := (Bx.new w3 (encClockMark m) 50).alloc _
        have q1 : SrcK w3 2 (.slice (some ⟨b, off, none⟩) k k) k ((xs.take k).flatMap encClockMark) := by
          have := HSM.out _ hbl2 k
          simpa using this
        have q2 : SrcK w3 2 (.slice (some ⟨b, off, none⟩) 0 0) 0 [] := srcK_nil _ _ _ _
        have one1 : ∀ u ∈ encClockMark m, u.oneCell' = true := by intro u hu; exact oneCM [m] u (by simpa using hu)
        have hS : ∀ w', Below w3.heap.size w3 w' → Below w3.heap.size w3 w' ∧ w'.cell? ⟨w.heap.size, 0, none⟩ = some (.int .i64 m.pShown) ∧ w'.cell? ⟨w.heap.size, 1, none⟩ = some (.int .i64 m.pTrue) := fun w' q => ⟨q, cellOf q (cell_of_lt e0) e0, cellOf q (cell_of_lt e1) e1⟩
        have HS0 := Lib.hid hS
        have Q1 := Lib.hid q1
        have Q2 := Lib.hid q2
        have ONE := Lib.hid one1
        clear hS q1 q2 one1
        go_wp2
        go_region_held3 (fun w' => Below w3.heap.size w3 w' ∧ w'.cell? ⟨w.heap.size, 0, none⟩ = some (.int .i64 m.pShown) ∧ w'.cell? ⟨w.heap.size, 1, none⟩ = some (.int .i64 m.pTrue))
          (first
            | exact HS0.out _ (Below.refl _ _).drew
            | exact HS0.out _ (by with_reducible assumption))
          (first
            | (refine step_append_srcK (((w3.alloc (.cells #[] 50)).alloc (.cells #[.int .i64 m.pShown, .int .i64 m.pTrue] 50)).drew) (by rfl) _ _ _ (by rfl) w3.heap.size 50 ti (.agg #[.int .i64 0, .int .i64 0]) 2 16 Try.underlying45 hi hz0 hz1 hz2 rfl (by decide) _ (0) ([]) (by rfl) (rA1) _ (k) _ (by rfl) (Q1.out.below KA1) (by unfold maxLen; omega) (by omega) (by first | omega | (simp; done) | (simp; omega)) ?_; intro v5 w5 hr5 hg5 hat5; have B5 : Below w3.heap.size w3 w5 := Below.grown KA1 hg5 (by first | omega | (simp; done) | (simp; omega)) (by intro q hq; cases hq; simp); have r5 : w5.ownsRow w3.heap.size 50 2 v5 k ((xs.take k).flatMap encClockMark) := (by simpa using hr5); have z5 := B5.size; have b5 := bA1.grown (row := some w3.heap.size) hg5 (by simp); clear hr5 hg5 hat5)
            | (refine step_append_srcK (((w3.alloc (.cells #[.int .i64 m.pShown, .int .i64 m.pTrue] 50)).alloc (.cells #[] 50)).drew) (by rfl) _ _ _ (by rfl) w3.heap.size 50 ti (.agg #[.int .i64 0, .int .i64 0]) 2 16 Try.underlying45 hi hz0 hz1 hz2 rfl (by decide) _ (0) ([]) (by rfl) (rB0) _ (k) _ (by rfl) (Q1.out.below KB0) (by unfold maxLen; omega) (by omega) (by first | omega | (simp; done) | (simp; omega)) ?_; intro v5 w5 hr5 hg5 hat5; have B5 : Below w3.heap.size w3 w5 := Below.grown KB0 hg5 (by first | omega | (simp; done) | (simp; omega)) (by intro q hq; cases hq; simp); have r5 : w5.ownsRow w3.heap.size 50 2 v5 k ((xs.take k).flatMap encClockMark) := (by simpa using hr5); have z5 := B5.size; have b5 := bB0.grown (row := some (w3.heap.size + 1)) hg5 (by simp); clear hr5 hg5 hat5)
            | (refine step_append_srcK ((w3.alloc (.cells #[] 50)).drew) (by rfl) _ _ _ (by rfl) w3.heap.size 50 ti (.agg #[.int .i64 0, .int .i64 0]) 2 16 Try.underlying45 hi hz0 hz1 hz2 rfl (by decide) _ (0) ([]) (by rfl) (rA) _ (k) _ (by rfl) (Q1.out.below KA) (by unfold maxLen; omega) (by omega) (by first | omega | (simp; done) | (simp; omega)) ?_; intro v5 w5 hr5 hg5 hat5; have B5 : Below w3.heap.size w3 w5 := Below.grown KA hg5 (by first | omega | (simp; done) | (simp; omega)) (by intro q hq; cases hq; simp); have r5 : w5.ownsRow w3.heap.size 50 2 v5 k ((xs.take k).flatMap encClockMark) := (by simpa using hr5); have z5 := B5.size; have K5 : Below w3.heap.size w3 (w5.alloc (.cells #[.int .i64 m.pShown, .int .i64 m.pTrue] 50)) := B5.alloc B5.size _; have b5V : Bx (w5.alloc (.cells #[.int .i64 m.pShown, .int .i64 m.pTrue] 50)) w5.heap.size (encClockMark m) := Bx.new w5 (encClockMark m) 50; clear hr5 hg5 hat5)
            | (refine step_append_srcK (w5) (by rfl) _ _ _ (by rfl) w3.heap.size 50 ti (.agg #[.int .i64 0, .int .i64 0]) 2 16 Try.underlying45 hi hz0 hz1 hz2 rfl (by decide) _ (k) ((xs.take k).flatMap encClockMark) (by rfl) (r5) _ (1) _ (by rfl) (srcK_box b5 ONE.out) (by unfold maxLen; omega) (by omega) (z5) ?_; intro v6 w6 hr6 hg6 hat6; have B6 : Below w3.heap.size w3 w6 := Below.grown B5 hg6 (by first | omega | (simp; done) | (simp; omega)) (fun q hq => (r5.lt q hq).1); have r6 : w6.ownsRow w3.heap.size 50 2 v6 (k + 1) (((xs.take k).flatMap encClockMark) ++ encClockMark m) := hr6; have z6 := B6.size; clear hr6 hg6 hat6)
            | (refine step_append_srcK (w5.alloc (.cells #[.int .i64 m.pShown, .int .i64 m.pTrue] 50)) (by rfl) _ _ _ (by rfl) w3.heap.size 50 ti (.agg #[.int .i64 0, .int .i64 0]) 2 16 Try.underlying45 hi hz0 hz1 hz2 rfl (by decide) _ (k) ((xs.take k).flatMap encClockMark) (by rfl) (r5.alloc _) _ (1) _ (by rfl) (srcK_box b5V ONE.out) (by unfold maxLen; omega) (by omega) (by first | omega | (simp; done) | (simp; omega)) ?_; intro v6 w6 hr6 hg6 hat6; have B6 : Below w3.heap.size w3 w6 := Below.grown K5 hg6 (by first | omega | (simp; done) | (simp; omega)) (fun q hq => (r5.lt q hq).1); have r6 : w6.ownsRow w3.heap.size 50 2 v6 (k + 1) (((xs.take k).flatMap encClockMark) ++ encClockMark m) := hr6; have z6 := B6.size; clear hr6 hg6 hat6)
            | (refine step_append_srcK (w6) (by rfl) _ _ _ (by rfl) w3.heap.size 50 ti (.agg #[.int .i64 0, .int .i64 0]) 2 16 Try.underlying45 hi hz0 hz1 hz2 rfl (by decide) _ (k + 1) (((xs.take k).flatMap encClockMark) ++ encClockMark m) (by rfl) (r6) _ (0) _ (by rfl) (Q2.out.below B6) (by unfold maxLen; omega) (by omega) (z6) ?_; intro v7 w7 hr7 hg7 hat7; have B7 : Below w3.heap.size w3 w7 := Below.grown B6 hg7 (by first | omega | (simp; done) | (simp; omega)) (fun q hq => (r6.lt q hq).1); have r7 : w7.ownsRow w3.heap.size 50 2 v7 (k + 1 + 0) (((xs.take k).flatMap encClockMark) ++ encClockMark m ++ []) := hr7; have z7 := B7.size; clear hr7 hg7 hat7))
        all_goals
          obtain ⟨g7, cap7, rfl, hc7, hm7, hL7, -⟩ := row_some r7 (by omega)
          have r8 : w7.ownsRow w.heap.size 50 2 (.slice (some ⟨g7, 0, none⟩) (k + 1 + 0) cap7) (k + 1 + 0) ((putTk xs m).flatMap encClockMark) := by
            have := Go.Joins.ownsRow_le r7 (base' := w.heap.size) (by omega)
            rw [HPUT.out]
            simpa [List.flatMap_append, List.flatMap_cons, List.append_assoc, HDR.out] using this
          have C7 : Below w.heap.size w w7 := hbl2.trans (B7.mono hsz2)
          clear r7
          go_wp2
          go_ret
          exact ⟨_, rfl, OwnK.of_row encClockMark_len (by omega) r8, C7⟩
      · have hkc4 : ¬ cap = k := fun h => hkc h.symm
        clear hkl
        go_wp2
        go_quiet (fail)
        have hbl2 := drewN_b hbl nq
        have hb2 : Bx (wr.drewN nq) w.heap.size (encClockMark m) := hb.below (drewN_b (Below.refl _ _) nq)
        have hsz2 : w.heap.size ≤ (wr.drewN nq).heap.size := hsz
        generalize wr.drewN nq = w3 at *
        clear mc0 mc1 hbl hb
        go_wp2
        have e0 : w3.cell? ⟨w.heap.size, 0, none⟩ = some (.int .i64 m.pShown) := hb2.2 0 _ rfl
        have e1 : w3.cell? ⟨w.heap.size, 1, none⟩ = some (.int .i64 m.pTrue) := hb2.2 1 _ rfl
        have KA : Below w3.heap.size w3 (w3.alloc (.cells #[] 50)).drew := ((Below.refl _ _).alloc (Nat.le_refl _) _).drew
        have KA1 : Below w3.heap.size w3 ((w3.alloc (.cells #[] 50)).alloc (.cells #[.int .i64 m.pShown, .int .i64 m.pTrue] 50)).drew := (((Below.refl _ _).alloc (Nat.le_refl _) _).alloc (by first | omega | (simp; done) | (simp; omega)) _).drew
        have KB : Below w3.heap.size w3 (w3.alloc (.cells #[.int .i64 m.pShown, .int .i64 m.pTrue] 50)).drew := ((Below.refl _ _).alloc (Nat.le_refl _) _).drew
        have KB0 : Below w3.heap.size w3 ((w3.alloc (.cells #[.int .i64 m.pShown, .int .i64 m.pTrue] 50)).alloc (.cells #[] 50)).drew := (((Below.refl _ _).alloc (Nat.le_refl _) _).alloc (by first | omega | (simp; done) | (simp; omega)) _).drew
        have rA : (w3.alloc (.cells #[] 50)).drew.ownsRow w3.heap.size 50 2 (.slice (some ⟨w3.heap.size, 0, none⟩) 0 0) 0 [] := rowK_empty w3 _ _ (Nat.le_refl _)
        have rA1 : ((w3.alloc (.cells #[] 50)).alloc (.cells #[.int .i64 m.pShown, .int .i64 m.pTrue] 50)).drew.ownsRow w3.heap.size 50 2 (.slice (some ⟨w3.heap.size, 0, none⟩) 0 0) 0 [] := (rowK_empty w3 _ _ (Nat.le_refl _)).alloc _
        have rB0 : ((w3.alloc (.cells #[.int .i64 m.pShown, .int .i64 m.pTrue] 50)).alloc (.cells #[] 50)).drew.ownsRow w3.heap.size 50 2 (.slice (some ⟨w3.heap.size + 1, 0, none⟩) 0 0) 0 [] := by
          have h9 : ((w3.alloc (.cells #[.int .i64 m.pShown, .int .i64 m.pTrue] 50)).alloc (.cells #[] 50)).ownsRow w3.heap.size 50 2 (.slice (some ⟨w3.heap.size + 1, 0, none⟩) 0 0) 0 [] := by
            have := rowK_empty (w3.alloc (.cells #[.int .i64 m.pShown, .int .i64 m.pTrue] 50)) (base := w3.heap.size) 50 2 (by first | omega | (simp; done) | (simp; omega))
            simpa using this
          exact h9
        have bA1 : Bx ((w3.alloc (.cells #[] 50)).alloc (.cells #[.int .i64 m.pShown, .int .i64 m.pTrue] 50)).drew (w3.heap.size + 1) (encClockMark m) := Bx.new1 w3 (.cells #[] 50) (encClockMark m) 50
        have bB0 : Bx ((w3.alloc (.cells #[.int .i64 m.pShown, .int .i64 m.pTrue] 50)).alloc (.cells #[] 50)).drew w3.heap.size (encClockMark m) := (Bx.new w3 (encClockMark m) 50).alloc _
        have q1 : SrcK w3 2 (.slice (some ⟨b, off, none⟩) k cap) k ((xs.take k).flatMap encClockMark) := by
          have := src_mid HCC.out hB hbl2 0 k cap (Nat.zero_le _) hk
          simpa using this
        have q2 : SrcK w3 2 (.slice (some ⟨b, off + k * 2, none⟩) (xs.length - k) (cap - k)) (xs.length - k) ((xs.drop k).flatMap encClockMark) := by
          have := src_mid HCC.out hB hbl2 k xs.length (cap - k) hk (Nat.le_refl _)
          rwa [List.take_of_length_le (by rw [List.length_drop]; exact Nat.le_refl _)] at this
        have one1 : ∀ u ∈ encClockMark m, u.oneCell' = true := by intro u hu; exact oneCM [m] u (by simpa using hu)
        have hS : ∀ w', Below w3.heap.size w3 w' → Below w3.heap.size w3 w' ∧ w'.cell? ⟨w.heap.size, 0, none⟩ = some (.int .i64 m.pShown) ∧ w'.cell? ⟨w.heap.size, 1, none⟩ = some (.int .i64 m.pTrue) := fun w' q => ⟨q, cellOf q (cell_of_lt e0) e0, cellOf q (cell_of_lt e1) e1⟩
        have HS0 := Lib.hid hS
        have Q1 := Lib.hid q1
        have Q2 := Lib.hid q2
        have ONE := Lib.hid one1
        clear hS q1 q2 one1
        have hcm7 : (xs.length : Int) ≤ (cap : Int) := by omega
        have hcm8 : ¬ (cap : Int) < (k : Int) := by omega
        have hcm9 : ¬ (xs.length : Int) < (k : Int) := by omega
        have hcm2 : (k : Int) ≤ (xs.length : Int) := by omega
        have hcm3 : k ≤ xs.length := hk
        have hcm5 : (k : Int) ≤ (cap : Int) := by omega
        have hcm6 : k ≤ cap := by omega
        go_wp2
        go_region_held3 (fun w' => Below w3.heap.size w3 w' ∧ w'.cell? ⟨w.heap.size, 0, none⟩ = some (.int .i64 m.pShown) ∧ w'.cell? ⟨w.heap.size, 1, none⟩ = some (.int .i64 m.pTrue))
          (first
            | exact HS0.out _ (Below.refl _ _).drew
            | exact HS0.out _ (by with_reducible assumption))
          (first
            | (refine step_append_srcK (((w3.alloc (.cells #[] 50)).alloc (.cells #[.int .i64 m.pShown, .int .i64 m.pTrue] 50)).drew) (by rfl) _ _ _ (by rfl) w3.heap.size 50 ti (.agg #[.int .i64 0, .int .i64 0]) 2 16 Try.underlying45 hi hz0 hz1 hz2 rfl (by decide) _ (0) ([]) (by rfl) (rA1) _ (k) _ (by rfl) (Q1.out.below KA1) (by unfold maxLen; omega) (by omega) (by first | omega | (simp; done) | (simp; omega)) ?_; intro v5 w5 hr5 hg5 hat5; have B5 : Below w3.heap.size w3 w5 := Below.grown KA1 hg5 (by first | omega | (simp; done) | (simp; omega)) (by intro q hq; cases hq; simp); have r5 : w5.ownsRow w3.heap.size 50 2 v5 k ((xs.take k).flatMap encClockMark) := (by simpa using hr5); have z5 := B5.size; have b5 := bA1.grown (row := some w3.heap.size) hg5 (by simp); clear hr5 hg5 hat5)
            | (refine step_append_srcK (((w3.alloc (.cells #[.int .i64 m.pShown, .int .i64 m.pTrue] 50)).alloc (.cells #[] 50)).drew) (by rfl) _ _ _ (by rfl) w3.heap.size 50 ti (.agg #[.int .i64 0, .int .i64 0]) 2 16 Try.underlying45 hi hz0 hz1 hz2 rfl (by decide) _ (0) ([]) (by rfl) (rB0) _ (k) _ (by rfl) (Q1.out.below KB0) (by unfold maxLen; omega) (by omega) (by first | omega | (simp; done) | (simp; omega)) ?_; intro v5 w5 hr5 hg5 hat5; have B5 : Below w3.heap.size w3 w5 := Below.grown KB0 hg5 (by first | omega | (simp; done) | (simp; omega)) (by intro q hq; cases hq; simp); have r5 : w5.ownsRow w3.heap.size 50 2 v5 k ((xs.take k).flatMap encClockMark) := (by simpa using hr5); have z5 := B5.size; have b5 := bB0.grown (row := some (w3.heap.size + 1)) hg5 (by simp); clear hr5 hg5 hat5)
            | (refine step_append_srcK ((w3.alloc (.cells #[] 50)).drew) (by rfl) _ _ _ (by rfl) w3.heap.size 50 ti (.agg #[.int .i64 0, .int .i64 0]) 2 16 Try.underlying45 hi hz0 hz1 hz2 rfl (by decide) _ (0) ([]) (by rfl) (rA) _ (k) _ (by rfl) (Q1.out.below KA) (by unfold maxLen; omega) (by omega) (by first | omega | (simp; done) | (simp; omega)) ?_; intro v5 w5 hr5 hg5 hat5; have B5 : Below w3.heap.size w3 w5 := Below.grown KA hg5 (by first | omega | (simp; done) | (simp; omega)) (by intro q hq; cases hq; simp); have r5 : w5.ownsRow w3.heap.size 50 2 v5 k ((xs.take k).flatMap encClockMark) := (by simpa using hr5); have z5 := B5.size; have K5 : Below w3.heap.size w3 (w5.alloc (.cells #[.int .i64 m.pShown, .int .i64 m.pTrue] 50)) := B5.alloc B5.size _; have b5V : Bx (w5.alloc (.cells #[.int .i64 m.pShown, .int .i64 m.pTrue] 50)) w5.heap.size (encClockMark m) := Bx.new w5 (encClockMark m) 50; clear hr5 hg5 hat5)
            | (refine step_append_srcK (w5) (by rfl) _ _ _ (by rfl) w3.heap.size 50 ti (.agg #[.int .i64 0, .int .i64 0]) 2 16 Try.underlying45 hi hz0 hz1 hz2 rfl (by decide) _ (k) ((xs.take k).flatMap encClockMark) (by rfl) (r5) _ (1) _ (by rfl) (srcK_box b5 ONE.out) (by unfold maxLen; omega) (by omega) (z5) ?_; intro v6 w6 hr6 hg6 hat6; have B6 : Below w3.heap.size w3 w6 := Below.grown B5 hg6 (by first | omega | (simp; done) | (simp; omega)) (fun q hq => (r5.lt q hq).1); have r6 : w6.ownsRow w3.heap.size 50 2 v6 (k + 1) (((xs.take k).flatMap encClockMark) ++ encClockMark m) := hr6; have z6 := B6.size; clear hr6 hg6 hat6)
            | (refine step_append_srcK (w5.alloc (.cells #[.int .i64 m.pShown, .int .i64 m.pTrue] 50)) (by rfl) _ _ _ (by rfl) w3.heap.size 50 ti (.agg #[.int .i64 0, .int .i64 0]) 2 16 Try.underlying45 hi hz0 hz1 hz2 rfl (by decide) _ (k) ((xs.take k).flatMap encClockMark) (by rfl) (r5.alloc _) _ (1) _ (by rfl) (srcK_box b5V ONE.out) (by unfold maxLen; omega) (by omega) (by first | omega | (simp; done) | (simp; omega)) ?_; intro v6 w6 hr6 hg6 hat6; have B6 : Below w3.heap.size w3 w6 := Below.grown K5 hg6 (by first | omega | (simp; done) | (simp; omega)) (fun q hq => (r5.lt q hq).1); have r6 : w6.ownsRow w3.heap.size 50 2 v6 (k + 1) (((xs.take k).flatMap encClockMark) ++ encClockMark m) := hr6; have z6 := B6.size; clear hr6 hg6 hat6)
            | (refine step_append_srcK (w6) (by rfl) _ _ _ (by rfl) w3.heap.size 50 ti (.agg #[.int .i64 0, .int .i64 0]) 2 16 Try.underlying45 hi hz0 hz1 hz2 rfl (by decide) _ (k + 1) (((xs.take k).flatMap encClockMark) ++ encClockMark m) (by rfl) (r6) _ ((xs.length - k)) _ (by rfl) (Q2.out.below B6) (by unfold maxLen; omega) (by omega) (z6) ?_; intro v7 w7 hr7 hg7 hat7; have B7 : Below w3.heap.size w3 w7 := Below.grown B6 hg7 (by first | omega | (simp; done) | (simp; omega)) (fun q hq => (r6.lt q hq).1); have r7 : w7.ownsRow w3.heap.size 50 2 v7 (k + 1 + (xs.length - k)) (((xs.take k).flatMap encClockMark) ++ encClockMark m ++ ((xs.drop k).flatMap encClockMark)) := hr7; have z7 := B7.size; clear hr7 hg7 hat7))
        all_goals
          obtain ⟨g7, cap7, rfl, hc7, hm7, hL7, -⟩ := row_some r7 (by omega)
          have r8 : w7.ownsRow w.heap.size 50 2 (.slice (some ⟨g7, 0, none⟩) (k + 1 + (xs.length - k)) cap7) (k + 1 + (xs.length - k)) ((putTk xs m).flatMap encClockMark) := by
            have := Go.Joins.ownsRow_le r7 (base' := w.heap.size) (by omega)
            rw [HPUT.out]
            simpa [List.flatMap_append, List.flatMap_cons, List.append_assoc] using this
          have C7 : Below w.heap.size w w7 := hbl2.trans (B7.mono hsz2)
          clear r7
          go_wp2
          go_ret
          exact ⟨_, rfl, OwnK.of_row encClockMark_len (by omega) r8, C7⟩
end Go.Proofs.Ytklilfbokpljkac
