/- Slices of slices of integers, each in a block of its own: eq, mark and held of the laws. -/
import Derived.Test.YtjiaejempfhheaaInt
import Derived.Lib.QuietBelow
namespace Go.Proofs.Ytjiaejempfhheaa
open Go.ChangeShapes Go.WideShapes Go.ChangeAt Go.RowKit Go.ChangeMaps Go.Sort
set_option linter.unusedSimpArgs false
set_option linter.unusedVariables false

theorem Own.blk {α : Type} {en : α → Value} {w w' : World} {g : Nat} {v : Value} {xs : List α} (h : Own en w g (g + 1) v xs) (hk : g < w.heap.size → w'.heap[g]? = w.heap[g]?) : Own en w' g (g + 1) v xs := by
  obtain ⟨ao, cap, h1, h2, h3, hn, h4⟩ := h
  refine ⟨ao, cap, h1, h2, h3, hn, fun i x hi => ?_⟩
  obtain ⟨b, off, e1, e0, e2, e3, e4⟩ := h4 i x hi
  obtain rfl : b = g := by omega
  have hb := hk (cell_of_lt e3)
  exact ⟨b, off, e1, e0, e2, (World.cell?_of_block hb).trans e3, (World.frozen?_of_block hb).trans e4⟩
/-- A slice of slices of integers, below block B. -/
def SSL (w : World) (B : Nat) (v : Value) (xss : List (List Int)) : Prop :=
  ∃ us : List Value, us.length = xss.length ∧ Lst id w B v us ∧ ∀ (i : Nat) (u : Value) (xs : List Int), us[i]? = some u → xss[i]? = some xs → Lst (Value.int .i64) w B u xs
/-- The same, each in a block of its own, from block L on. -/
def SSO (w : World) (L B : Nat) (v : Value) (xss : List (List Int)) : Prop :=
  ∃ (us : List Value) (bs : List Nat) (g : Nat), us.length = xss.length ∧ bs.length = xss.length ∧ bs.Nodup ∧ g ∉ bs ∧ (L ≤ g ∧ g < B) ∧ Own id w g (g + 1) v us ∧
    (∀ b ∈ bs, L ≤ b ∧ b < B) ∧ ∀ (i : Nat) (u : Value) (xs : List Int) (b : Nat), us[i]? = some u → xss[i]? = some xs → bs[i]? = some b → Own (Value.int .i64) w b (b + 1) u xs
theorem SSL.below {w w' : World} {B : Nat} {v : Value} {xss : List (List Int)} (h : SSL w B v xss) (hb : Below B w w') : SSL w' B v xss := by
  obtain ⟨us, h1, h2, h3⟩ := h
  exact ⟨us, h1, h2.below hb, fun i u xs hu hx => (h3 i u xs hu hx).below hb⟩
theorem SSL.mono {w : World} {B B' : Nat} {v : Value} {xss : List (List Int)} (h : SSL w B v xss) (hb : B ≤ B') : SSL w B' v xss := by
  obtain ⟨us, h1, h2, h3⟩ := h
  exact ⟨us, h1, h2.mono hb, fun i u xs hu hx => (h3 i u xs hu hx).mono hb⟩
theorem SSL.form {w : World} {B : Nat} {v : Value} {xss : List (List Int)} (h : SSL w B v xss) : ∃ ao cap, v = .slice ao xss.length cap := by
  obtain ⟨us, h1, h2, -⟩ := h
  rw [← h1]; exact h2.form
theorem SSO.form {w : World} {L B : Nat} {v : Value} {xss : List (List Int)} (h : SSO w L B v xss) : ∃ ao cap, v = .slice ao xss.length cap := by
  obtain ⟨us, bs, g, h1, -, -, -, -, h2, -⟩ := h
  rw [← h1]; exact h2.form
theorem SSO.lst {w : World} {L B : Nat} {v : Value} {xss : List (List Int)} (h : SSO w L B v xss) : SSL w B v xss := by
  obtain ⟨us, bs, g, h1, h2, -, -, ⟨-, hg⟩, h3, hb, h4⟩ := h
  refine ⟨us, h1, h3.lst.mono (by omega), fun i u xs hu hx => ?_⟩
  obtain ⟨b, hbi⟩ := get_of_lt (l := bs) (k := i) (by have := (List.getElem?_eq_some_iff.1 hx).1; omega)
  have := hb b (List.mem_of_getElem? hbi)
  exact (h4 i u xs b hu hx hbi).lst.mono (by omega)
theorem SSO.mono {w : World} {L B L' B' : Nat} {v : Value} {xss : List (List Int)} (h : SSO w L B v xss) (hl : L' ≤ L) (hb : B ≤ B') : SSO w L' B' v xss := by
  obtain ⟨us, bs, g, h1, h2, h3, h4, h5, h6, h7, h8⟩ := h
  exact ⟨us, bs, g, h1, h2, h3, h4, by omega, h6, fun b hb => by have := h7 b hb; omega, h8⟩
theorem SSO.kept {w w' : World} {L B : Nat} {v : Value} {xss : List (List Int)} (h : SSO w L B v xss) (hk : ∀ b, L ≤ b → b < B → b < w.heap.size → w'.heap[b]? = w.heap[b]?) : SSO w' L B v xss := by
  obtain ⟨us, bs, g, h1, h2, h3, h4, h5, h6, h7, h8⟩ := h
  exact ⟨us, bs, g, h1, h2, h3, h4, h5, h6.blk (hk g h5.1 h5.2), h7, fun i u xs b hu hx hb => (h8 i u xs b hu hx hb).blk (hk b (h7 b (List.mem_of_getElem? hb)).1 (h7 b (List.mem_of_getElem? hb)).2)⟩
theorem SSO.below {w w' : World} {L B : Nat} {v : Value} {xss : List (List Int)} (h : SSO w L B v xss) (hb : Below B w w') : SSO w' L B v xss := h.kept fun b _ h2 _ => hb.block b h2
theorem SSO.high {w w' : World} {L B L' U' : Nat} {v : Value} {xss : List (List Int)} (h : SSO w L B v xss) (hu : Upd L' U' w w') (hU : U' ≤ L) : SSO w' L B v xss := h.kept fun b h1 _ h3 => hu.block b h3 (Or.inr (by omega))

/-- How many numbers. -/
def totSS : List (List Int) → Nat
  | [] => 0
  | xs :: r => xs.length + totSS r
theorem totSS_append : ∀ (a b : List (List Int)), totSS (a ++ b) = totSS a + totSS b
  | [], b => by simp [totSS]
  | x :: a, b => by rw [List.cons_append, totSS, totSS, totSS_append a b]; omega
theorem totSS_succ {xss : List (List Int)} {i : Nat} {xs : List Int} (h : xss[i]? = some xs) : totSS (xss.take (i + 1)) = totSS (xss.take i) + xs.length := by
  rw [take_snoc h, totSS_append]; simp [totSS]
theorem totSS_le : ∀ (xss : List (List Int)) (i : Nat), totSS (xss.take i) ≤ totSS xss
  | [], i => by simp [totSS]
  | x :: r, 0 => by simp [totSS]
  | x :: r, i + 1 => by rw [List.take_succ_cons, totSS, totSS]; have := totSS_le r i; omega
def marksSS : Int → List (List Int) → List (List Int)
  | _, [] => []
  | k, xs :: r => imarks k xs.length :: marksSS (k + xs.length) r
theorem marksSS_len : ∀ (k : Int) (xss : List (List Int)), (marksSS k xss).length = xss.length
  | _, [] => rfl
  | k, xs :: r => by rw [marksSS, List.length_cons, List.length_cons, marksSS_len]
theorem marksSS_get : ∀ {k : Int} {xss : List (List Int)} {i : Nat} {xs : List Int}, xss[i]? = some xs → (marksSS k xss)[i]? = some (imarks (k + (totSS (xss.take i) : Nat)) xs.length)
  | k, ys :: r, 0, xs, h => by simp at h; subst h; simp [marksSS, totSS]
  | k, ys :: r, i + 1, xs, h => by
    have h1 : r[i]? = some xs := by simpa using h
    have h2 := marksSS_get (k := k + ys.length) h1
    rw [marksSS, List.getElem?_cons_succ, h2, List.take_succ_cons, totSS]
    congr 2; push_cast; omega

set_option maxHeartbeats 400000 in
theorem eq_IntSS (xss : List (List Int)) (v v2 : Value) (w : World) (B : Nat) (h : SSL w B v xss) (h2 : SSL w B v2 xss) (hB : B ≤ w.heap.size) :
    Calls Try.prog 59 #[v, v2] w fun e w' => e = .returned (.bool true) ∧ Below w.heap.size w w' := by
  obtain ⟨us, hl, ⟨ao, cap, rfl, hcap, hmax, -, hc⟩, hi⟩ := h
  obtain ⟨us2, hl2, ⟨ao2, cap2, rfl, hcap2, hmax2, -, hc2⟩, hi2⟩ := h2
  unfold maxLen at hmax
  rw [hl] at hcap ⊢
  rw [hl2] at hcap2 ⊢
  have HC := Lib.hid hc
  have HC2 := Lib.hid hc2
  have HI := Lib.hid hi
  have HI2 := Lib.hid hi2
  have HL := Lib.hid hl
  have HL2 := Lib.hid hl2
  clear hc hc2 hi hi2 hl hl2
  go_enter Try.func59, Try.ntmps59
  go_wp2
  go_loopw [5] (fun i wr => ∃ (k : Nat), k ≤ xss.length ∧ i = .int .i64 k ∧ Below w.heap.size w wr)
    (fun i _ => xss.length - (intOf i).toNat)
  case atStart => exact ⟨0, Nat.zero_le _, rfl, Below.refl _ _⟩
  case round =>
    obtain ⟨k, hk, rfl, hbl⟩ := hrel
    by_cases hlt : k < xss.length
    case neg =>
      obtain rfl : k = xss.length := by omega
      go_wp2
      go_ret
      exact ⟨rfl, hbl⟩
    obtain ⟨u, hu⟩ := get_of_lt (l := us) (k := k) (by rw [HL.out]; exact hlt)
    obtain ⟨u2, hu2⟩ := get_of_lt (l := us2) (k := k) (by rw [HL2.out]; exact hlt)
    obtain ⟨xs, hx⟩ := get_of_lt hlt
    obtain ⟨b, off, rfl, hb, hcell⟩ := HC.out k u hu
    obtain ⟨b2, off2, rfl, hb2, hcell2⟩ := HC2.out k u2 hu2
    have c1 : wr.cell? ⟨b, off + k, none⟩ = some u := cellOf hbl (by omega) hcell
    have c2 : wr.cell? ⟨b2, off2 + k, none⟩ = some u2 := cellOf hbl (by omega) hcell2
    have hsz := hbl.size
    have L1 := (HI.out k u xs hu hx).below (hbl.mono hB)
    have L2 := (HI2.out k u2 xs hu2 hx).below (hbl.mono hB)
    have hB2 : B ≤ wr.heap.size := by omega
    have cc := fun d os => Calls.regrown_of (w := wr) (d := d) (os := os) (eq_IntS xs u u2 _ B (L1.below ((below_regrown wr d os).mono hB2)) (L2.below ((below_regrown wr d os).mono hB2)) (Nat.le_trans hB2 (below_regrown wr d os).size))
    have r1 := cell_regrown c1
    have r2 := cell_regrown c2
    have hk0 : (0 : Int) ≤ (k : Int) := by omega
    have hk1 : (k : Int) < (xss.length : Int) := by omega
    clear hu hu2 hx hcell hcell2 L1 L2
    go_wp2
    refine wp_region_quiet_below (by kernel_rfl) (by kernel_rfl) ?_
    repeat (go_big_quiet_step (exact cc _ _))
    refine wpQuiet_nil ?_
    intro _ hw'
    obtain ⟨⟨dq, osq⟩, hw''⟩ := hw'
    subst hw''
    have hb2 := below_regrown (wr) dq osq
    generalize grow (redrawn (wr) dq) osq = w2 at *
    clear cc r1 r2
    go_wp2
    go_roundw
    case rel => exact ⟨k + 1, by omega, by go_num, hbl.trans (hb2.mono hsz)⟩
    case measure => simp [intOf]; omega

theorem nodup_at {bs : List Nat} (h : bs.Nodup) {i j b : Nat} (hi : bs[i]? = some b) (hj : bs[j]? = some b) : i = j := by
  have hi' := List.getElem?_eq_some_iff.1 hi
  have hj' := List.getElem?_eq_some_iff.1 hj
  rcases Nat.lt_trichotomy i j with q | q | q
  · exact absurd (hi'.2.trans hj'.2.symm) (List.pairwise_iff_getElem.1 h i j hi'.1 hj'.1 q)
  · exact q
  · exact absurd (hj'.2.trans hi'.2.symm) (List.pairwise_iff_getElem.1 h j i hj'.1 hi'.1 q)
set_option maxHeartbeats 400000 in
theorem mark_IntSS (xss : List (List Int)) (v : Value) (k : Int) (w : World) (L B : Nat) (h : SSO w L B v xss) (_ : B ≤ w.heap.size) (hn : totSS xss + xss.length ≤ 1048576) (h0 : 0 ≤ k) (h1 : k ≤ 50000000000) :
    Calls Try.prog 60 #[v, .int .i64 k] w fun e w' => e = .returned (.int .i64 (k + (totSS xss : Nat))) ∧ SSO w' L B v (marksSS k xss) ∧ Upd L B w w' := by
  obtain ⟨us, bs, g, hl, hlb, hnd, hgb, hg, ho, hbs, hi⟩ := h
  obtain ⟨ao, cap, rfl, hcap, hmax, _, _⟩ := id ho
  unfold maxLen at hmax
  have HO := Lib.hid ho
  have HI := Lib.hid hi
  have HL := Lib.hid hl
  have HB := Lib.hid hbs
  have HND := Lib.hid hnd
  rw [hl] at hcap ⊢
  clear ho hi hl hbs hnd
  go_enter Try.func60, Try.ntmps60
  go_wp2
  go_loopw [1, 5] (fun m i wr => ∃ (j : Nat), j ≤ xss.length ∧ i = .int .i64 j ∧ m = .int .i64 (k + (totSS (xss.take j) : Nat)) ∧ Hid (Own id wr g (g + 1) (.slice ao us.length cap) us) ∧
      Hid (∀ (i : Nat) (u : Value) (xs : List Int) (b : Nat), us[i]? = some u → xss[i]? = some xs → bs[i]? = some b → Own (Value.int .i64) wr b (b + 1) u (if i < j then imarks (k + (totSS (xss.take i) : Nat)) xs.length else xs)) ∧ Upd L B w wr)
    (fun _ i _ => xss.length - (intOf i).toNat)
  case atStart => exact ⟨0, Nat.zero_le _, rfl, by simp [totSS], HO, Lib.hid (fun i u xs b hu hx hb => by simpa using HI.out i u xs b hu hx hb), Upd.refl _ _ _⟩
  case round =>
    obtain ⟨j, hj, rfl, rfl, HO2, HI2, hbl⟩ := hrel
    have hle := totSS_le xss j
    by_cases hlt : j < xss.length
    case neg =>
      obtain rfl : j = xss.length := by omega
      rw [List.take_length]
      go_wp2
      go_ret
      refine ⟨rfl, ⟨us, bs, g, by rw [marksSS_len]; exact HL.out, by rw [marksSS_len]; exact hlb, HND.out, hgb, hg, by rw [← HL.out]; exact HO2.out, HB.out, fun i u xs b hu hx hb => ?_⟩, hbl⟩
      have hil : i < xss.length := by have := (List.getElem?_eq_some_iff.1 hu).1; rwa [HL.out] at this
      obtain ⟨ys, hy⟩ := get_of_lt hil
      rw [marksSS_get hy] at hx
      cases hx
      have := HI2.out i u ys b hu hy hb
      rwa [if_pos hil] at this
    obtain ⟨u, hu⟩ := get_of_lt (l := us) (k := j) (by rw [HL.out]; exact hlt)
    obtain ⟨xs, hx⟩ := get_of_lt hlt
    obtain ⟨b, hb⟩ := get_of_lt (l := bs) (k := j) (by omega)
    obtain ⟨ao', cap', hv', _, _, _, hc'⟩ := id HO2.out
    simp only [Value.slice.injEq] at hv'
    obtain ⟨rfl, -, rfl⟩ := hv'
    obtain ⟨gb, off, rfl, hg1, hg2, hcell, -⟩ := hc' j u hu
    obtain rfl : gb = g := by omega
    have c1 : wr.cell? ⟨gb, off + j, none⟩ = some u := hcell
    have OJ := HI2.out j u xs b hu hx hb
    rw [if_neg (Nat.lt_irrefl j)] at OJ
    have hts := totSS_succ hx
    have hle2 := totSS_le xss (j + 1)
    have D := Lib.hid (markIntS_any xs u (k + (totSS (xss.take j) : Nat)) wr b (b + 1) OJ (by omega) (by omega) (by omega))
    have HU := Lib.hid hu
    have HX := Lib.hid hx
    have HBB := Lib.hid hb
    have hk0 : (0 : Int) ≤ (j : Int) := by omega
    have hk1 : (j : Int) < (xss.length : Int) := by omega
    have hk2 : (j : Int) < 1048576 := by omega
    clear hu hx hb hcell hc' OJ
    have hgne : gb ≠ b := fun e => hgb (e ▸ List.mem_of_getElem? HBB.out)
    have hbb := HB.out b (List.mem_of_getElem? HBB.out)
    go_wp2_with fail
    refine D.out.mono ?_
    rintro e w2 ⟨rfl, hown, hu2⟩
    have HO3 := Lib.hid (HO2.out.blk (w' := w2) (fun h => hu2.block gb h (by omega)))
    have HI3 : Hid (∀ (i : Nat) (u : Value) (xs : List Int) (b : Nat), us[i]? = some u → xss[i]? = some xs → bs[i]? = some b → Own (Value.int .i64) w2 b (b + 1) u (if i < j + 1 then imarks (k + (totSS (xss.take i) : Nat)) xs.length else xs)) := Lib.hid (by
      intro i u' xs' b' hu' hx' hb'
      by_cases e : i = j
      · subst e
        rw [HU.out] at hu'; cases hu'
        rw [HX.out] at hx'; cases hx'
        rw [HBB.out] at hb'; cases hb'
        rw [if_pos (Nat.lt_succ_self _)]
        exact hown
      · have hbne : b' ≠ b := by
          rintro rfl
          exact e (nodup_at HND.out hb' HBB.out)
        have h9 := (HI2.out i u' xs' b' hu' hx' hb').blk (w' := w2) (fun h => hu2.block b' h (by omega))
        by_cases q : i < j
        · rw [if_pos q] at h9; rw [if_pos (by omega)]; exact h9
        · rw [if_neg q] at h9; rw [if_neg (by omega)]; exact h9)
    have HUP := hbl.trans (hu2.mono hbb.1 (by omega))
    clear hown hu2 D
    go_wp2
    go_roundw
    case rel => exact ⟨j + 1, by omega, by go_num, congrArg (Value.int .i64) (by omega), HO3, HI3, HUP⟩
    case measure => simp [intOf]; omega

set_option maxRecDepth 4000 in
set_option maxHeartbeats 1000000 in
theorem held_IntSS (xss : List (List Int)) (v : Value) (k : Int) (w : World) (B : Nat) (h : SSL w B v (marksSS k xss)) (hB : B ≤ w.heap.size) (hn : totSS xss + xss.length ≤ 1048576) (h0 : 0 ≤ k) (h1 : k ≤ 50000000000) :
    Calls Try.prog 61 #[v, .int .i64 k] w fun e w' => e = .returned (.int .i64 (k + (totSS xss : Nat))) ∧ Below w.heap.size w w' := by
  obtain ⟨us, hl, ⟨ao, cap, rfl, hcap, hmax, -, hc⟩, hi⟩ := h
  unfold maxLen at hmax
  rw [marksSS_len] at hl
  rw [hl] at hcap ⊢
  have HC := Lib.hid hc
  have HI := Lib.hid hi
  have HL := Lib.hid hl
  clear hc hi hl
  go_enter Try.func61, Try.ntmps61
  go_wp2
  go_loopw [1, 5] (fun m i wr => ∃ (j : Nat), j ≤ xss.length ∧ i = .int .i64 j ∧ m = .int .i64 (k + (totSS (xss.take j) : Nat)) ∧ Below w.heap.size w wr)
    (fun _ i _ => xss.length - (intOf i).toNat)
  case atStart => exact ⟨0, Nat.zero_le _, rfl, by simp [totSS], Below.refl _ _⟩
  case round =>
    obtain ⟨j, hj, rfl, rfl, hbl⟩ := hrel
    have hle := totSS_le xss j
    by_cases hlt : j < xss.length
    case neg =>
      obtain rfl : j = xss.length := by omega
      rw [List.take_length]
      go_wp2
      go_ret
      exact ⟨rfl, hbl⟩
    obtain ⟨u, hu⟩ := get_of_lt (l := us) (k := j) (by rw [HL.out]; exact hlt)
    obtain ⟨xs, hx⟩ := get_of_lt hlt
    obtain ⟨b, off, rfl, hb, hcell⟩ := HC.out j u hu
    have c1 : wr.cell? ⟨b, off + j, none⟩ = some u := cellOf hbl (by omega) hcell
    have hsz := hbl.size
    have hts := totSS_succ hx
    have hle2 := totSS_le xss (j + 1)
    have D := Lib.hid (held_IntS xs u (k + (totSS (xss.take j) : Nat)) wr B ((HI.out j u _ hu (marksSS_get hx)).below (hbl.mono hB)) (by omega) (by omega) (by omega) (by omega))
    have hk0 : (0 : Int) ≤ (j : Int) := by omega
    have hk1 : (j : Int) < (xss.length : Int) := by omega
    have hk2 : (j : Int) < 1048576 := by omega
    generalize hkk : k + (totSS (xss.take j) : Nat) + (xs.length : Int) = kk at D
    have hp : ¬ kk < 0 := by omega
    have hkk2 := Lib.hid (show kk = k + (totSS (xss.take (j + 1)) : Nat) by omega)
    clear hkk hts hle hle2
    clear hu hx hcell
    go_wp2_with fail
    refine D.out.mono ?_
    rintro e w2 ⟨rfl, hb2⟩
    have HUP := hbl.trans (hb2.mono hsz)
    clear hb2 D h1 h0 hn hmax hcap
    have hdp : decide (kk < 0) = false := by simpa using hp
    go_wp2
    go_roundw
    case rel => exact ⟨j + 1, by omega, by go_num, congrArg (Value.int .i64) hkk2.out, HUP⟩
    case measure => simp [intOf]; omega
end Go.Proofs.Ytjiaejempfhheaa
