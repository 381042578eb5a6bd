/- The specification's cursor that draws arguments from bytes: contracts. -/
import Derived.Test.YtoogofceoinniabBase
import Derived.Laws.BitsAllLaws
namespace Go.Proofs.Ytoogofceoinniab
open Go.ChangeShapes Go.WideShapes Go.ChangeAt Go.RowKit Go.ChangeMaps
set_option linter.unusedSimpArgs false
set_option linter.unusedVariables false

/-- The bytes of a code: in blocks below B. -/
def Code (w : World) (B : Nat) (ao : Option Addr) (n : Nat) : Prop :=
  ∀ i, i < n → ∃ bb off x, ao = some ⟨bb, off, none⟩ ∧ bb < B ∧ w.cell? ⟨bb, off + i, none⟩ = some (.int .u8 x) ∧ 0 ≤ x ∧ x ≤ 255
theorem Code.keep {w w' : World} {B : Nat} {ao : Option Addr} {n : Nat} (h : Code w B ao n) (hk : ∀ bb o, bb < B → w'.cell? ⟨bb, o, none⟩ = w.cell? ⟨bb, o, none⟩) : Code w' B ao n :=
  fun i hi => let ⟨bb, off, x, e1, e2, e3, e4⟩ := h i hi; ⟨bb, off, x, e1, e2, (hk _ _ e2).trans e3, e4⟩

/-- The cursor lies in block b: it has drawn at most k times. -/
def Cur (w : World) (B b k : Nat) : Prop :=
  B ≤ b ∧ ∃ ao n cap pos seed, w.heap[b]? = some (.cells #[.slice ao n cap, .int .i64 ((pos : Nat) : Int), .int .u64 seed] 106 (0, 0)) ∧ n ≤ 65536 ∧ pos ≤ k ∧ 0 ≤ seed ∧ seed < 18446744073709551616 ∧ Code w B ao n

/-- A number below lim is drawn; the cursor has drawn k times at most; nothing else has turned. -/
def NextPost (w : World) (B b k : Nat) (lim : Int) (e : Ending) (w' : World) : Prop :=
  ∃ r : Int, e = .returned (.int .i64 r) ∧ 0 ≤ r ∧ r < lim ∧ Cur w' B b k ∧ w.grownBy w' (some b)

theorem cur_stores (w : World) (b a q : Nat) (x0 x1 x2 v1 v2 : Value) (T : TypeId) (hb : w.heap[b]? = some (.cells #[x0, x1, x2] T (0, 0))) :
    ((((w.drewN a).setCell ⟨b, 1, none⟩ v1).setCell ⟨b, 2, none⟩ v2).drewN q).heap[b]? = some (.cells #[x0, v1, v2] T (0, 0)) ∧
      w.grownBy ((((w.drewN a).setCell ⟨b, 1, none⟩ v1).setCell ⟨b, 2, none⟩ v2).drewN q) (some b) := by
  refine ⟨?_, ⟨rfl, rfl, rfl, by simp [World.drewN, World.setCell], fun k hk hne => ?_⟩⟩
  · have hlt := (Array.getElem?_eq_some_iff.1 hb).1
    have hg := (Array.getElem?_eq_some_iff.1 hb).2
    simp [World.drewN, World.setCell, Array.getElem?_modify, hb]
  · have hkb : ¬ b = k := fun e => hne (by rw [e])
    simp [World.drewN, World.setCell, Array.getElem?_modify, hkb]
theorem grown_cell {w w' : World} {b bb o : Nat} (hg : w.grownBy w' (some b)) (hne : bb ≠ b) (hlt : bb < w.heap.size) : w'.cell? ⟨bb, o, none⟩ = w.cell? ⟨bb, o, none⟩ :=
  World.cell?_of_block (hg.block bb hlt (by intro e; exact hne (Option.some.inj e)))
theorem wrap_u64 (x : Int) : 0 ≤ IntKind.u64.wrap x ∧ IntKind.u64.wrap x < 18446744073709551616 := by
  have h := wf_wrap .u64 x
  have := bounds_u64 h
  omega
/-- What a draw leaves. -/
theorem cur_mk (w : World) (B b k a q : Nat) (ao : Option Addr) (n cap pos : Nat) (seed : Int) (x : Int) (r lim : Int) (hb : w.heap[b]? = some (.cells #[.slice ao n cap, .int .i64 ((pos : Nat) : Int), .int .u64 seed] 106 (0, 0)))
    (hBb : B ≤ b) (hn : n ≤ 65536) (hpos : pos ≤ k) (hcode : Code w B ao n) (hr0 : 0 ≤ r) (hr1 : r < lim) :
    NextPost w B b (k + 1) lim (.returned (.int .i64 r)) ((((w.drewN a).setCell ⟨b, 1, none⟩ (.int .i64 ((pos : Int) + 1))).setCell ⟨b, 2, none⟩ (.int .u64 (IntKind.u64.wrap x))).drewN q) := by
  obtain ⟨h1, h2⟩ := cur_stores w b a q _ _ _ (.int .i64 ((pos : Int) + 1)) (.int .u64 (IntKind.u64.wrap x)) _ hb
  have hlt := (Array.getElem?_eq_some_iff.1 hb).1
  exact ⟨r, rfl, hr0, hr1, ⟨hBb, ao, n, cap, pos + 1, _, h1, hn, by omega, (wrap_u64 x).1, (wrap_u64 x).2, hcode.keep fun bb o hbb => grown_cell h2 (by omega) (by omega)⟩, h2⟩

theorem and255 (x : Int) (h0 : 0 ≤ x) (h1 : x < 18446744073709551616) : 0 ≤ wrap64 (bits .and .u64 x 255) ∧ wrap64 (bits .and .u64 x 255) < 256 := by
  have e := u64_and x 255 h0 h1 (by omega) (by omega)
  have hle : x.toNat &&& (255 : Int).toNat ≤ 255 := Nat.and_le_right
  rw [e]
  generalize x.toNat &&& (255 : Int).toNat = m at *
  simp only [wrap64]
  omega

set_option maxHeartbeats 1000000 in
theorem cur_next (w : World) (B b k : Nat) (h : Cur w B b k) (hk : k ≤ 1000000) :
    Calls Try.prog 103 #[.pointer (some ⟨b, 0, none⟩)] w (NextPost w B b (k + 1) 256) := by
  obtain ⟨hBb, ao, n, cap, pos, seed, hb, hn, hpos, hs0, hs1, hcode⟩ := h
  have c0 : w.cell? ⟨b, 0, none⟩ = some (.slice ao n cap) := by simp [World.cell?, hb]
  have c1 : w.cell? ⟨b, 1, none⟩ = some (.int .i64 pos) := by simp [World.cell?, hb]
  have c2 : w.cell? ⟨b, 2, none⟩ = some (.int .u64 seed) := by simp [World.cell?, hb]
  have f1 : w.frozen? ⟨b, 1, none⟩ = false := by simp [World.frozen?, hb]
  have f2 : w.frozen? ⟨b, 2, none⟩ = false := by simp [World.frozen?, hb]
  have HB := Lib.hid hb
  clear hb
  have HC := Lib.hid hcode
  by_cases hlt : pos < n
  · obtain ⟨bb, off, x, rfl, hbb, hx, hx0, hx1⟩ := hcode pos hlt
    have hi0 : (0 : Int) ≤ (pos : Int) := by omega
    clear hcode
    have hi1 : (pos : Int) < (n : Int) := by omega
    go_enter Try.func103, Try.ntmps103
    go_wp2
    go_quiet (fail)
    go_wp2
    go_quiet (fail)
    go_wp2
    go_quiet (fail)
    go_wp2
    go_ret
    exact cur_mk _ _ _ _ _ _ _ _ _ _ seed _ _ _ HB.out hBb hn hpos HC.out hx0 (by omega)
  · have hi1 : ¬ (pos : Int) < (n : Int) := by omega
    have hi2 : ¬ (pos : Int) + 1 ≤ (n : Int) := by omega
    clear hcode
    go_enter Try.func103, Try.ntmps103
    go_wp2
    go_quiet (fail)
    go_wp2
    go_quiet (fail)
    go_wp2
    go_ret
    have hw := wrap_u64 (IntKind.u64.wrap (IntKind.u64.wrap (seed * 6364136223846793005)) + 101717)
    have h255 := and255 (IntKind.u64.wrap (IntKind.u64.wrap (IntKind.u64.wrap (seed * 6364136223846793005)) + 101717) / 1099511627776) (by omega) (by omega)
    exact cur_mk _ _ _ _ _ _ _ _ _ _ seed _ _ _ HB.out hBb hn hpos HC.out h255.1 h255.2

theorem NextPost.mono {w : World} {B b k k' : Nat} {lim lim' : Int} {e : Ending} {w' : World} (h : NextPost w B b k lim e w') (hk : k ≤ k') (hl : lim ≤ lim') : NextPost w B b k' lim' e w' := by
  obtain ⟨r, h1, h2, h3, ⟨hB, ao, n, cap, pos, seed, g1, g2, g3, g4⟩, h5⟩ := h
  exact ⟨r, h1, h2, by omega, ⟨hB, ao, n, cap, pos, seed, g1, g2, by omega, g4⟩, h5⟩
theorem Cur.mono {w : World} {B b k k' : Nat} (h : Cur w B b k) (hk : k ≤ k') : Cur w B b k' := by
  obtain ⟨hB, ao, n, cap, pos, seed, g1, g2, g3, g4⟩ := h
  exact ⟨hB, ao, n, cap, pos, seed, g1, g2, by omega, g4⟩
theorem Cur.lt {w : World} {B b k : Nat} (h : Cur w B b k) : b < w.heap.size := by
  obtain ⟨hB, ao, n, cap, pos, seed, g1, _⟩ := h
  exact (Array.getElem?_eq_some_iff.1 g1).1

set_option maxHeartbeats 400000 in
/-- A number from 0 to n - 1. -/
theorem cur_pick (w : World) (B b k : Nat) (n : Int) (h : Cur w B b k) (hk : k ≤ 900000) (hn1 : 1 ≤ n) (hn2 : n ≤ 1000000) :
    Calls Try.prog 87 #[.pointer (some ⟨b, 0, none⟩), .int .i64 n] w (NextPost w B b (k + 2) n) := by
  by_cases h1 : n ≤ 1
  · go_enter Try.func87, Try.ntmps87
    go_wp2
    go_ret
    exact ⟨0, rfl, by omega, by omega, h.mono (by omega), World.grownBy.refl _ _⟩
  · by_cases h2 : 200 < n
    · have d1 : decide (n ≤ 1) = false := by simpa using h1
      have hne : (n == 0) = false := by simp; omega
      go_enter Try.func87, Try.ntmps87
      go_wp2_with fail
      refine (cur_next _ B b k h (by omega)).mono ?_
      rintro e w1 ⟨r, rfl, hr0, hr1, hc1, hg1⟩
      go_wp2_with fail
      refine (cur_next _ B b _ hc1 (by omega)).mono ?_
      rintro e w2 ⟨q, rfl, hq0, hq1, hc2, hg2⟩
      have hz0 : 0 ≤ r * 256 + q := by omega
      go_wp2
      go_ret
      exact ⟨(r * 256 + q) % n, rfl, Int.emod_nonneg _ (by omega), Int.emod_lt_of_pos _ (by omega), hc2, hg1.trans hg2⟩
    · have d1 : decide (n ≤ 1) = false := by simpa using h1
      have hne : (n == 0) = false := by simp; omega
      go_enter Try.func87, Try.ntmps87
      go_wp2_with fail
      refine (cur_next _ B b k h (by omega)).mono ?_
      rintro e w1 ⟨r, rfl, hr0, hr1, hc1, hg1⟩
      go_wp2
      go_ret
      exact ⟨r % n, rfl, Int.emod_nonneg _ (by omega), Int.emod_lt_of_pos _ (by omega), hc1.mono (by omega), hg1⟩
end Go.Proofs.Ytoogofceoinniab
