/- The implementation's split: a loop over an iterator. -/
import Derived.RangeFuncNested
import Derived.RangeFuncBound
import Derived.RangeFuncCalls
import Derived.RangeFuncLeaves
import Derived.RangeFuncBox
import Derived.Shelf.Abstract
import Derived.Shelf.RegionOpen
import Derived.WalkKit
import Derived.OwnWalkIn
import Derived.TacticsInMore
import Derived.LoopNIn
import Derived.LoopIn
import Derived.Maps.AppendAt
import Derived.Sort.QuietIn
import Derived.Maps.OwnIn
import Derived.Test.YtedngmnjpkhbiaaDoorSplit
namespace Go.Proofs.YtedngmnjpkhbiaaDoor
open Go.ChangeShapes Go.WideShapes Go.ChangeAt Go.RowKit Go.ChangeMaps Go.Shelf
set_option linter.unusedSimpArgs false
set_option linter.unusedVariables false

attribute [local go_sem] Oper.semAt_some

theorem grown_drewN (w : World) (n : Nat) : w.grownBy (w.drewN n) none := ⟨rfl, rfl, rfl, Nat.le_refl _, fun _ _ _ => rfl⟩
theorem scan_ext (c : UInt8) (s : ByteArray) (k : Nat) : ∀ j, ∃ l, (scan c s (k + j)).1 = (scan c s k).1 ++ l := by
  intro j
  induction j with
  | zero => exact ⟨[], by simp⟩
  | succ j ih =>
    obtain ⟨l, hl⟩ := ih
    by_cases h : s.data.toList[k + j]? = some c
    · rw [← Nat.add_assoc, scan_hit h]
      exact ⟨l ++ _, by rw [hl, List.append_assoc]⟩
    · rw [← Nat.add_assoc, scan_miss h]; exact ⟨l, hl⟩
theorem scan_more2 {c : UInt8} {s : ByteArray} {k n : Nat} (h : k ≤ n) : (scan c s k).1.length ≤ (scan c s n).1.length := by
  obtain ⟨l, hl⟩ := scan_ext c s k (n - k)
  rw [show k + (n - k) = n by omega] at hl
  rw [hl]; simp
theorem split_prefix {c : UInt8} {s : ByteArray} {k : Nat} (h : k ≤ s.size) : (scan c s k).1 <+: split s c := by
  obtain ⟨l, hl⟩ := scan_ext c s k (s.size - k)
  rw [show k + (s.size - k) = s.size by omega] at hl
  unfold split
  rw [hl, List.append_assoc]
  exact List.prefix_append _ _

/-- What a round keeps: the two boxes that the iterator reads. -/
def KeepsTwo (B1 B2 : Nat) (W W' : World) : Prop := W'.cell? ⟨B1, 0, none⟩ = W.cell? ⟨B1, 0, none⟩ ∧ W'.cell? ⟨B2, 0, none⟩ = W.cell? ⟨B2, 0, none⟩

set_option maxRecDepth 100000 in
set_option maxHeartbeats 1000000 in
theorem pieces1_in (F : Fence) (n : Nat) (h6 : F.fn 60) (hro : F.round = none) (hn : 1 ≤ n) (l B1 B2 : Nat) (s : ByteArray) (c : UInt8) (hs : s.size ≤ 1048576) (J Jx : List ByteArray → World → Prop)
    (hY : ∀ pre x W, J pre W → pre.length < (split s c).length → YieldAt F (n - 1) Tryd.prog l #[.string x] W fun e W' =>
      (e = .returned (.bool true) ∧ J (pre ++ [x]) W' ∧ KeepsTwo B1 B2 W W') ∨ (e = .returned (.bool false) ∧ Jx (pre ++ [x]) W'))
    (W : World) (hJ : AbidesFrom W.heap.size J) (hc1 : W.cell? ⟨B1, 0, none⟩ = some (.string s)) (hc2 : W.cell? ⟨B2, 0, none⟩ = some (.int .u8 c.toNat)) (h0 : J [] W) :
    CallsIn F n Tryd.prog 60 #[.func (.yield l) #[] #[], .pointer (some ⟨B1, 0, none⟩), .pointer (some ⟨B2, 0, none⟩)] W fun e W' => (∃ v, e = .returned v) ∧
      ((∃ ys, ys = split s c ∧ J ys W') ∨ (∃ pre, pre <+: split s c ∧ Jx pre W')) := by
  refine callsIn_of_wp Tryd.func60 rfl h6 ?_ hro
  simp only [Tryd.ntmps60, List.size_toArray, List.length_cons, List.length_nil, Nat.reduceAdd, Nat.reduceSub, Array.replicate_succ, Array.replicate_zero, List.push_toArray, List.append_toArray, List.nil_append, List.cons_append]
  gi_wp2
  gi_loopw [4, 5, 8] (fun f _ i wr => ∃ (k : Nat), k ≤ s.size ∧ i = .int .i64 k ∧ f = .int .i64 (scan c s k).2 ∧ J (scan c s k).1 wr ∧ wr.cell? ⟨B1, 0, none⟩ = some (.string s) ∧ wr.cell? ⟨B2, 0, none⟩ = some (.int .u8 c.toNat))
    (fun _ _ i _ => s.size - (intOf i).toNat)
  case atStart => exact ⟨0, Nat.zero_le _, rfl, rfl, h0, hc1, hc2⟩
  case round =>
    obtain ⟨k, hk, rfl, rfl, hJk, hd1, hd2⟩ := hrel
    have hsc := scan_le c s k
    by_cases hlt : k < s.size
    · have hb := byteAt s k hlt
      by_cases he : (s[k].toNat : Int) = c.toNat
      · have he1 : ((s[k].toNat : Int) == c.toNat) = true := by simpa using he
        have he2 : ((s[k].toNat : Int) != c.toNat) = false := by simpa using he
        have HS := Lib.hid (scan_hit (s := s) (k := k) (c := c) (by rw [hb, u8_inj he]))
        clear he hb
        gi_wp2
        refine wpIn_region_quiet_lit hro (by kernel_rfl) (by kernel_rfl) ?_
        repeat (quiet_step_in (fail))
        refine wpQuietIn_nil ?_
        intro _ hw'
        obtain ⟨nq, rfl⟩ := hw'
        obtain ⟨fn, tmps, assign, body, hy, hR⟩ := hY _ (s.extract (scan c s k).2 k) (wr.drewN nq) (hJ _ _ _ none hJk (grown_drewN wr nq) (by simp)) (by
          unfold split; simp; have := scan_more2 (c := c) (s := s) (k := k) (n := s.size) (by omega); omega)
        gi_wp2
        refine hR.mono ?_
        rintro e W3 (⟨rfl, hJ3, hk3⟩ | ⟨rfl, hJx3⟩)
        · have hd13 := hk3.1.trans hd1
          have hd23 := hk3.2.trans hd2
          gi_wp2
          go_roundw
          case rel => exact ⟨k + 1, by omega, by go_num, by rw [HS.out]; go_num, by rw [HS.out]; exact hJ3, hd13, hd23⟩
          case measure => simp [intOf]; omega
        · gi_wp2
          refine bodyPost_ret (results_none rfl _ _ _) rfl ?_
          refine ⟨⟨_, rfl⟩, .inr ⟨_, ?_, hJx3⟩⟩
          have := split_prefix (c := c) (s := s) (k := k + 1) (by omega)
          rw [HS.out] at this
          exact this
      · have he1 : ((s[k].toNat : Int) == c.toNat) = false := by simpa using he
        have he2 : ((s[k].toNat : Int) != c.toNat) = true := by simpa using he
        have HS := Lib.hid (scan_miss (s := s) (k := k) (c := c) (by rw [hb]; intro e; exact he (by rw [Option.some.inj e])))
        clear he hb
        gi_wp2
        refine wpIn_region_quiet_lit hro (by kernel_rfl) (by kernel_rfl) ?_
        repeat (quiet_step_in (fail))
        refine wpQuietIn_nil ?_
        intro _ hw'
        obtain ⟨nq, rfl⟩ := hw'
        gi_wp2
        go_roundw
        case rel => exact ⟨k + 1, by omega, by go_num, by rw [HS.out], by rw [HS.out]; exact hJ _ _ _ none hJk (grown_drewN wr nq) (by simp), hd1, hd2⟩
        case measure => simp [intOf]; omega
    · obtain rfl : k = s.size := by omega
      obtain ⟨fn, tmps, assign, body, hy, hR⟩ := hY _ (s.extract (scan c s s.size).2 s.size) wr hJk (by unfold split; simp)
      gi_wp2
      refine hR.mono ?_
      rintro e W3 (⟨rfl, hJ3, hk3⟩ | ⟨rfl, hJx3⟩)
      · gi_wp2
        go_end0
        exact ⟨⟨_, rfl⟩, .inl ⟨_, rfl, hJ3⟩⟩
      · gi_wp2
        go_end0
        exact ⟨⟨_, rfl⟩, .inr ⟨_, List.prefix_refl _, hJx3⟩⟩

theorem pieces_in (F : Fence) (n : Nat) (h5 : F.fn 47) (hro : F.round = none) (s : ByteArray) (c : UInt8) (w : World) :
    CallsIn F n Tryd.prog 47 #[.string s, .int .u8 c.toNat] w fun e w' => e = .returned (.func (.func 60) #[] #[.pointer (some ⟨w.heap.size, 0, none⟩), .pointer (some ⟨w.heap.size + 1, 0, none⟩)]) ∧
      w' = (w.alloc (.cells #[.string s] 9)).alloc (.cells #[.int .u8 c.toNat] 5) := by
  refine callsIn_of_wp Tryd.func47 rfl h5 ?_ hro
  simp only [Tryd.ntmps47, List.size_toArray, List.length_cons, List.length_nil, Nat.reduceAdd, Nat.reduceSub, Array.replicate_succ, Array.replicate_zero, List.push_toArray, List.append_toArray, List.nil_append, List.cons_append]
  gi_wp2
  go_ret
  exact ⟨rfl, rfl⟩

theorem pieces_stops (F : Fence) (n : Nat) (h6 : F.fn 60) (hro : F.round = none) (hn : 1 ≤ n) (B1 B2 : Nat) (s : ByteArray) (c : UInt8) (hs : s.size ≤ 1048576) (w : World) (hb1 : B1 < w.heap.size) (hb2 : B2 < w.heap.size)
    (hc1 : w.cell? ⟨B1, 0, none⟩ = some (.string s)) (hc2 : w.cell? ⟨B2, 0, none⟩ = some (.int .u8 c.toNat)) :
    SeqStopsK F n Tryd.prog 60 #[.pointer (some ⟨B1, 0, none⟩), .pointer (some ⟨B2, 0, none⟩)] (fun x : ByteArray => #[Value.string x]) (KeepsTwo B1 B2) (fun ys => ys = split s c) (fun pre => pre <+: split s c) (split s c).length w := fun l J Jx W hW hJ _ hY h0 =>
  pieces1_in F n h6 hro hn l B1 B2 s c hs J Jx hY W hJ (cellOf hW hb1 hc1) (cellOf hW hb2 hc2) h0

theorem splitInfo : (Tryd.prog.info? 9).map (fun i => (i.zero, i.size, i.bytes)) = some (some (.string .empty), 1, 16) := by kernel_rfl

set_option maxRecDepth 100000 in
set_option maxHeartbeats 2000000 in
theorem implSplit_in (F : Fence) (n : Nat) (h3 : F.fn 22) (h4 : F.fn 47) (h5 : F.fn 60) (hro : F.round = none) (hn : 3 ≤ n) (s sep : ByteArray) (c : UInt8) (hs : s.size ≤ 4000) (h1s : sep.size = 1) (hc0 : ∀ h : 0 < sep.size, sep[0] = c) (w : World) :
    CallsIn F n Tryd.prog 22 #[.string s, .string sep] w fun e W' => ∃ v, e = .returned (.tuple #[v, .bool true]) ∧ W'.ownsRow w.heap.size 9 1 v (split s c).length ((split s c).map Value.string) ∧ Below w.heap.size w W' := by
  have h1 : 1 ≤ n := by omega
  obtain ⟨i0, hi, hz0, hz1, hz2⟩ := info_parts splitInfo
  have d1 : decide (4000 < (s.size : Int)) = false := by simp; omega
  have d2 : ((sep.size : Int) != 1) = false := by simp [h1s]
  have d3 : 0 < sep.size := by omega
  have d4 : (0 : Int) < (sep.size : Int) := by omega
  have HS1 := Lib.hid h1s
  clear h1s
  refine callsIn_of_wp_marks Tryd.func22 rfl h3 ?_ hro
  simp only [Tryd.ntmps22, List.size_toArray, List.length_cons, List.length_nil, Nat.reduceAdd, Nat.reduceSub, Array.replicate_succ, Array.replicate_zero, List.push_toArray, List.append_toArray, List.nil_append, List.cons_append]
  gi_wp2_with (gi_at_call 47; refine (pieces_in F (n - 1) h4 hro _ _ _).mono ?_; rintro e w' ⟨rfl, rfl⟩)
  obtain ⟨w4, hw4⟩ : ∃ w4, (((w.alloc (.cells #[] 9)).alloc (.cells #[.slice (some ⟨w.heap.size, 0, none⟩) 0 0] 44)).alloc (.cells #[.string s] 9)).alloc (.cells #[.int .u8 c.toNat] 5) = w4 := ⟨_, rfl⟩
  have hz4 : w4.heap.size = w.heap.size + 4 := by rw [← hw4]; simp
  have bO : Boxed w4 (w.heap.size + 1) 44 (.slice (some ⟨w.heap.size, 0, none⟩) 0 0) := by
    rw [← hw4]
    have := Boxed.new (w.alloc (.cells #[] 9)) 44 (.slice (some ⟨w.heap.size, 0, none⟩) 0 0)
    rw [World.size_alloc] at this
    exact (this.alloc _).alloc _
  have b1 : Boxed w4 (w.heap.size + 1 + 1) 9 (.string s) := by
    rw [← hw4]
    have := Boxed.new ((w.alloc (.cells #[] 9)).alloc (.cells #[.slice (some ⟨w.heap.size, 0, none⟩) 0 0] 44)) 9 (.string s)
    rw [World.size_alloc, World.size_alloc] at this
    exact this.alloc _
  have b2 : Boxed w4 (w.heap.size + 1 + 1 + 1) 5 (.int .u8 c.toNat) := by
    rw [← hw4]
    have := Boxed.new (((w.alloc (.cells #[] 9)).alloc (.cells #[.slice (some ⟨w.heap.size, 0, none⟩) 0 0] 44)).alloc (.cells #[.string s] 9)) 5 (.int .u8 c.toNat)
    rw [World.size_alloc, World.size_alloc, World.size_alloc] at this
    exact this
  have hR4 : w4.ownsRow w.heap.size 9 1 (.slice (some ⟨w.heap.size, 0, none⟩) 0 0) 0 [] := by
    rw [← hw4]
    exact (((World.ownsRow_made w #[] 0 (Nat.le_refl _) (by simp [maxLen]) rfl).alloc _).alloc _).alloc _
  have hB4 : Below w.heap.size w w4 := by
    rw [← hw4]
    exact ((((Below.refl _ w).alloc (Nat.le_refl _) _).alloc (by simp) _).alloc (by simp; omega) _).alloc (by simp; omega) _
  have hsl := split_len s c
  rw [hw4]
  clear hw4
  refine wpIn_rangeFunc_ownG hro h1 (gf := 60) (lb := #[.pointer (some ⟨w.heap.size + 1 + 1, 0, none⟩), .pointer (some ⟨w.heap.size + 1 + 1 + 1, 0, none⟩)]) rfl h5 (enters_of Tryd.func60 (by kernel_rfl) rfl)
    (pieces_stops F (n - 1) h5 hro (by omega) (w.heap.size + 1 + 1) (w.heap.size + 1 + 1 + 1) s c (by omega) w4 (by omega) (by omega) b1.cell b2.cell)
    (fun h k => ⟨k.1.trans h.1, k.2.trans h.2⟩)
    (fun W l o o' hl hlo _ _ => ⟨World.cell?_of_block (World.putObj_heap_other (by show w.heap.size + 1 + 1 ≠ l; omega)), World.cell?_of_block (World.putObj_heap_other (by show w.heap.size + 1 + 1 + 1 ≠ l; omega))⟩)
    (Below.refl _ _) (fun _ => rfl)
    (fun pre W => ((∃ v, Boxed W (w.heap.size + 1) 44 v ∧ W.ownsRow w.heap.size 9 1 v pre.length (pre.map Value.string) ∧ (∃ g, v.ownBlock = some g ∧ (g = w.heap.size ∨ w.heap.size + 4 ≤ g))) ∧ Below w.heap.size w W) ∧ (Boxed W (w.heap.size + 1 + 1) 9 (.string s) ∧ Boxed W (w.heap.size + 1 + 1 + 1) 5 (.int .u8 c.toNat)))
    (fun _ _ _ => False)
    (OwnFrom.and (OwnFrom.and (Own.from (holdsRow_own w.heap.size (w.heap.size + 1) 44 9 1 (fun pre : List ByteArray => pre.length) (fun pre => pre.map Value.string) (fun _ v => ∃ g, v.ownBlock = some g ∧ (g = w.heap.size ∨ w.heap.size + 4 ≤ g))) _) (ownFrom_below (Nat.le_refl _) (by omega)))
      (OwnFrom.and (Own.from (boxed_own _ _ _) _) (Own.from (boxed_own _ _ _) _)))
    (fun _ _ _ _ _ hs _ _ => hs)
    ⟨⟨⟨_, bO, hR4, _, rfl, Or.inl rfl⟩, hB4⟩, b1, b2⟩
    (fun x => { tmps := #[.string s, .string sep, undef, undef, .slice none 0 0, .bool false, .pointer (some ⟨w.heap.size + 1, 0, none⟩), .string x, .string s, .int .i64 s.size, .bool false, .bool false, .string sep, .int .i64 sep.size, .bool false, .bool false, undef,
      .slice (some ⟨w.heap.size, 0, none⟩) 0 0, .string s, .string sep, .int .u8 c.toNat, .func (.func 60) #[] #[.pointer (some ⟨w.heap.size + 1 + 1, 0, none⟩), .pointer (some ⟨w.heap.size + 1 + 1 + 1, 0, none⟩)], .string x, undef, undef, undef, undef, undef], defers := [] }) ?assign ?body ?done ?stop
  case assign =>
    intro l x W K hK
    gi_wp2
    exact hK
  case body =>
    rintro l pre x W ⟨⟨⟨v, hv, hrow, g, hg, hg4⟩, hB⟩, hb1, hb2⟩ hlt
    have hc := hv.cell
    have hlt3 := hb2.lt
    have hsW := hB.size
    gi_wp2_with (gi_at_builtin; refine wpListIn_append_own_at _ rfl _ _ 44 rfl w.heap.size 9 i0 (.string .empty) 1 16 Tryd.underlying44 hi hz0 hz1 hz2 rfl (by decide) v pre.length (pre.map Value.string) rfl (hrow.alloc _) ⟨W.heap.size, 0, none⟩ 1 1 [.string x] rfl rfl (cell_one_new _ _ _) (by simp [Value.oneCell']) (by unfold maxLen; omega) (by omega) (by simp; omega) ?_; intro v' w1 hown' hgrow _ hat; obtain ⟨g', cap', rfl⟩ := ownsRow_succ hown'; obtain ⟨hv1, hv2, hr2, hk2, hbl2⟩ := hv.appended (by decide) hrow hsW (by omega) hown' hgrow; have hc1 := hv1.cell; have hf1 := hv1.frozen)
    have hne1 : some (w.heap.size + 1 + 1) ≠ v.ownBlock := by rw [hg]; intro e; have := Option.some.inj e; omega
    have hne2 : some (w.heap.size + 1 + 1 + 1) ≠ v.ownBlock := by rw [hg]; intro e; have := Option.some.inj e; omega
    have e1 := ((hb1.alloc _).kept hgrow hne1).other (B' := w.heap.size + 1) (by omega) (.slice (some ⟨g', 0, none⟩) (pre.length + 1) cap')
    have e2 := ((hb2.alloc _).kept hgrow hne2).other (B' := w.heap.size + 1) (by omega) (.slice (some ⟨g', 0, none⟩) (pre.length + 1) cap')
    have hg' : g' = w.heap.size ∨ w.heap.size + 4 ≤ g' := by
      rcases hat with h | h
      · rw [hg] at h
        have h2 : some g' = some g := h
        have := Option.some.inj h2
        omega
      · simp [Value.ownBlock] at h; omega
    refine ⟨hk2.from _, ⟨e1.cell.trans hb1.cell.symm, e2.cell.trans hb2.cell.symm⟩, ⟨⟨_, hv2, by simpa using hr2, g', rfl, hg'⟩, hB.trans hbl2⟩, e1, e2⟩
  case done =>
    rintro D ys W hD rfl ⟨⟨⟨v, hv, hrow, _⟩, hB⟩, _, _⟩ hK
    have hc := hv.cell
    gi_wp2
    refine ⟨by simp, .inl ⟨_, _, rfl, run_takeDeferred hK, ?_⟩⟩
    exact ⟨_, results_tmp2 rfl _ _ _, v, rfl, ownsRow_putObj hrow _ hK rfl, hB.trans (belowK_b (w := w) (Nat.le_refl _) W D _ _ (by omega) hK rfl rfl)⟩
  case stop =>
    rintro D c' pre W _ _ h _
    exact h.elim

/-- The parts that a split answers. -/
def okSp (s sep : ByteArray) : Bool := decide (s.size ≤ 4000) && decide (sep.size = 1)
def resSp (s sep : ByteArray) : List ByteArray := if okSp s sep then split s (sep.data.toList.headD 0) else []
theorem resSp_no {s sep : ByteArray} (h : ¬ s.size ≤ 4000 ∨ ¬ sep.size = 1) : resSp s sep = [] ∧ okSp s sep = false := by
  have : okSp s sep = false := by
    unfold okSp
    rcases h with h | h
    · rw [decide_eq_false h]; rfl
    · rw [decide_eq_false h]; simp
  exact ⟨by unfold resSp; rw [this]; rfl, this⟩
theorem resSp_yes {s sep : ByteArray} {c : UInt8} (h : s.size ≤ 4000) (h1 : sep.size = 1) (hc : sep.data.toList = [c]) : resSp s sep = split s c ∧ okSp s sep = true := by
  have : okSp s sep = true := by unfold okSp; rw [decide_eq_true h, decide_eq_true h1]; rfl
  exact ⟨by unfold resSp; rw [this, hc]; rfl, this⟩
theorem one_byte {sep : ByteArray} (h1 : sep.size = 1) : ∃ c : UInt8, sep.data.toList = [c] ∧ ∀ h : 0 < sep.size, sep[0] = c := by
  obtain ⟨⟨l⟩⟩ := sep
  match l, h1 with
  | [c], _ => exact ⟨c, rfl, fun _ => rfl⟩
theorem ret_pair {v : Value} {x y : Bool} (h : x = y) : Ending.returned (.tuple #[v, .bool x]) = .returned (.tuple #[v, .bool y]) := by rw [h]

theorem implSplit_no1 (s sep : ByteArray) (w : World) (h : 4000 < s.size) :
    Calls Tryd.prog 22 #[.string s, .string sep] w fun e w' => ∃ v, e = .returned (.tuple #[v, .bool (okSp s sep)]) ∧ w'.ownsRow w.heap.size 9 1 v (resSp s sep).length ((resSp s sep).map Value.string) ∧ Below w.heap.size w w' := by
  obtain ⟨h1, h2⟩ := resSp_no (s := s) (sep := sep) (Or.inl (by omega))
  rw [h1, h2]
  have d1 : decide (4000 < (s.size : Int)) = true := by simp; omega
  clear h1 h2
  go_enter Tryd.func22, Tryd.ntmps22
  go_wp2
  go_ret2
  exact ⟨_, rfl, World.ownsRow_made w #[] 0 (Nat.le_refl _) (by simp [maxLen]) rfl, (Below.refl _ _).alloc (Nat.le_refl _) _⟩
theorem implSplit_no2 (s sep : ByteArray) (w : World) (h : ¬ 4000 < s.size) (h' : ¬ sep.size = 1) :
    Calls Tryd.prog 22 #[.string s, .string sep] w fun e w' => ∃ v, e = .returned (.tuple #[v, .bool (okSp s sep)]) ∧ w'.ownsRow w.heap.size 9 1 v (resSp s sep).length ((resSp s sep).map Value.string) ∧ Below w.heap.size w w' := by
  obtain ⟨h1, h2⟩ := resSp_no (s := s) (sep := sep) (Or.inr h')
  rw [h1, h2]
  have d1 : decide (4000 < (s.size : Int)) = false := by simp; omega
  have d2 : ((sep.size : Int) != 1) = true := by simp; omega
  clear h1 h2
  go_enter Tryd.func22, Tryd.ntmps22
  go_wp2
  go_ret2
  exact ⟨_, rfl, World.ownsRow_made w #[] 0 (Nat.le_refl _) (by simp [maxLen]) rfl, (Below.refl _ _).alloc (Nat.le_refl _) _⟩

theorem implSplit (s sep : ByteArray) (w : World) :
    Calls Tryd.prog 22 #[.string s, .string sep] w fun e w' => ∃ v, e = .returned (.tuple #[v, .bool (okSp s sep)]) ∧ w'.ownsRow w.heap.size 9 1 v (resSp s sep).length ((resSp s sep).map Value.string) ∧ Below w.heap.size w w' := by
  by_cases h : 4000 < s.size
  · exact implSplit_no1 s sep w h
  · by_cases h1 : sep.size = 1
    · obtain ⟨c, hcl, hc0⟩ := one_byte h1
      obtain ⟨e1, e2⟩ := resSp_yes (s := s) (by omega) h1 hcl
      rw [e1, e2]
      exact (callsIn_wide (n := 3)).1 (implSplit_in _ 3 trivial trivial trivial rfl (by omega) s sep c (by omega) h1 hc0 w)
    · exact implSplit_no2 s sep w h h1

end Go.Proofs.YtedngmnjpkhbiaaDoor
