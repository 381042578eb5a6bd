/- Tracks: the program's slices.Concat, the sort by Shown, and what both make of two lists. -/
import Derived.Test.YtklilfbokpljkacTkP
import Derived.Test.YtklilfbokpljkacTkI
import Derived.Test.YtklilfbokpljkacGrew
import Derived.Test.YtklilfbokpljkacShx
import Derived.Test.YtklilfbokpljkacSrt
namespace Go.Proofs.Ytklilfbokpljkac
open Go.ChangeShapes Go.WideShapes Go.ChangeAt Go.RowKit Go.ChangeMaps Go.Sort Go.Shelf
set_option linter.unusedSimpArgs false
set_option linter.unusedVariables false
set_option linter.unusedSimpArgs false
set_option linter.unusedVariables false

/-- The first marks do not come behind the later ones. -/
def ascS (xs : List GClockMark) : Prop := xs.Pairwise fun a b => a.pShown ≤ b.pShown
theorem ascS_of {xs : List GClockMark} (h : xs.Pairwise befTk) : ascS xs := h.imp fun q => Int.le_of_lt q.1
theorem asc_perm : ∀ (ys zs : List GClockMark), ys.Pairwise (fun a b => a.pShown < b.pShown) → ascS zs → zs.Perm ys → zs = ys
  | [], zs, _, _, hp => List.perm_nil.1 hp
  | y :: ys, [], _, _, hp => absurd hp (by simp)
  | y :: ys, z :: zs, h1, h2, hp => by
    unfold ascS at h2
    rw [List.pairwise_cons] at h1 h2
    have hz : z ∈ y :: ys := hp.mem_iff.1 (List.mem_cons_self ..)
    have hy : y ∈ z :: zs := hp.symm.mem_iff.1 (List.mem_cons_self ..)
    have e : z = y := by
      rcases List.mem_cons.1 hz with q | q
      · exact q
      · rcases List.mem_cons.1 hy with r | r
        · exact r.symm
        · have a1 := h1.1 z q
          have a2 := h2.1 y r
          omega
    subst e
    rw [asc_perm ys zs h1.2 h2.2 ((List.perm_cons z).1 hp)]
theorem good_perm {ys zs : List GClockMark} (h1 : ascS ys) (h2 : ascS zs) (hp : zs.Perm ys) : goodTk ys = goodTk zs ∧ (goodTk zs = true → ys = zs) := by
  by_cases hy : okTk ys
  · have e := asc_perm ys zs (hy.2.2.imp fun q => q.1) h2 hp
    rw [e]; exact ⟨rfl, fun _ => rfl⟩
  · by_cases hz : okTk zs
    · have e := asc_perm zs ys (hz.2.2.imp fun q => q.1) h1 hp.symm
      rw [e]; exact ⟨rfl, fun _ => rfl⟩
    · rw [goodTk_no hy, goodTk_no hz]; exact ⟨rfl, fun h => by cases h⟩
theorem putTk_perm (xs : List GClockMark) (m : GClockMark) : (putTk xs m).Perm (xs ++ [m]) := by
  unfold putTk
  have e : xs.takeWhile (fun a => decide (a.pShown < m.pShown)) ++ xs.dropWhile (fun a => decide (a.pShown < m.pShown)) = xs := List.takeWhile_append_dropWhile
  refine List.perm_middle.trans ?_
  rw [e]
  exact (List.perm_append_singleton m xs).symm
theorem dropW_asc : ∀ (xs : List GClockMark) (m : GClockMark), ascS xs → ∀ a ∈ xs.dropWhile (fun a => decide (a.pShown < m.pShown)), m.pShown ≤ a.pShown
  | [], m, _, a, h => by simp at h
  | x :: xs, m, hs, a, h => by
    unfold ascS at hs
    rw [List.pairwise_cons] at hs
    rw [List.dropWhile_cons] at h
    by_cases hx : x.pShown < m.pShown
    · rw [decide_eq_true hx, if_pos rfl] at h
      exact dropW_asc xs m hs.2 a h
    · rw [decide_eq_false hx, if_neg (by simp)] at h
      rcases List.mem_cons.1 h with q | q
      · rw [q]; omega
      · have := hs.1 a q; omega
theorem putTk_ascS {xs : List GClockMark} (h : ascS xs) (m : GClockMark) : ascS (putTk xs m) := by
  unfold putTk ascS
  rw [List.pairwise_append, List.pairwise_cons]
  refine ⟨h.sublist (List.takeWhile_sublist _), ⟨fun a ha => dropW_asc xs m h a ha, h.sublist (List.dropWhile_sublist _)⟩, fun a ha b hb => ?_⟩
  have h1 := takeW_lt ha
  rcases List.mem_cons.1 hb with q | q
  · rw [q]; omega
  · have := dropW_asc xs m h b q; omega

theorem growTk (na nb : Nat) (w : World) (hna : na ≤ 100) (hnb : nb ≤ 100) (hn : 0 < na + nb) :
    Calls Try.prog 125 #[.slice none 0 0, .int .i64 ((na : Int) + (nb : Int))] w fun e w' => ∃ cap, e = .returned (.slice (some ⟨w.heap.size, 0, none⟩) 0 cap) ∧ w'.ownsRow w.heap.size 50 2 (.slice (some ⟨w.heap.size, 0, none⟩) 0 cap) 0 [] ∧ Below w.heap.size w w' := by
  obtain ⟨ti, hi, hz0, hz1, hz2⟩ := info_parts info_ClockMark
  have h := Any8.slices_Grow_grow Try.growK_125 ti (.agg #[.int .i64 0, .int .i64 0]) hi hz0 (by rw [hz1]; omega) none 0 0 (na + nb) [] w (Nat.le_refl _) (by omega) (by rw [hz2]; omega) (by omega) (by simp) (fun _ => rfl) (fun a e => by cases e)
  have e1 : ((na + nb : Nat) : Int) = (na : Int) + (nb : Int) := by omega
  rw [e1] at h
  have c1 := grownCap_ge w (0 + (na + nb)) 0 50
  have c2 := grownCap_le_maxLen w (0 + (na + nb)) 0 50 (by unfold maxLen; omega)
  refine Calls.mono h ?_
  rintro e w' ⟨rfl, rfl⟩
  refine ⟨_, rfl, ?_, (Below.refl _ w).drew.alloc (by simp) _⟩
  have e2 : grownCap w (0 + (na + nb)) 0 (Try.growK_125_ren.t 25) = grownCap w (0 + (na + nb)) 0 50 := rfl
  rw [e2]
  generalize grownCap w (0 + (na + nb)) 0 50 = G at *
  exact World.ownsRow_made w.drew _ G (by simp) c2 (by
    have z2 : (Value.agg #[.int .i64 0, .int .i64 0]).cells.size = 2 := rfl
    simp only [Array.size_append, size_zeroCells, z2]
    simp
    omega)
set_option maxRecDepth 100000 in
set_option maxHeartbeats 2000000 in
/-- slices.Concat of two lists that are not nil. -/
theorem implCat (va vb : Value) (na nb g : Nat) (xs ys : List Value) (w : World) (h0 : w.cell? ⟨g, 0, none⟩ = some va) (h1 : w.cell? ⟨g, 1, none⟩ = some vb) (ha : SrcK w 2 va na xs) (hb : SrcK w 2 vb nb ys) (hna : na ≤ 100) (hnb : nb ≤ 100) (hn : 0 < na + nb) :
    Calls Try.prog 111 #[.slice (some ⟨g, 0, none⟩) 2 2] w fun e w' => ∃ v', e = .returned v' ∧ w'.ownsRow w.heap.size 50 2 v' (na + nb) (xs ++ ys) ∧ Below w.heap.size w w' := by
  obtain ⟨ti, hi, hz0, hz1, hz2⟩ := info_parts info_ClockMark
  have HSA := Lib.hid ha
  have HSB := Lib.hid hb
  obtain ⟨aa, ca, rfl, -⟩ := ha
  obtain ⟨ab, cb, rfl, -⟩ := hb
  have CG := Lib.hid (growTk na nb w hna hnb hn)
  have i1 : (na : Int) ≤ 100 := by omega
  have i2 : (nb : Int) ≤ 100 := by omega
  go_enter Try.func111, Try.ntmps111
  go_wp2
  go_loopw [3, 11] (fun s i wr => w = wr ∧ ((i = .int .i64 0 ∧ s = .int .i64 0) ∨ (i = .int .i64 1 ∧ s = .int .i64 na) ∨ (i = .int .i64 2 ∧ s = .int .i64 ((na + nb : Nat) : Int)))) (fun _ i _ => (2 - intOf i).toNat)
  case atStart => exact ⟨rfl, Or.inl ⟨rfl, rfl⟩⟩
  case round =>
    obtain ⟨hw, hc⟩ := hrel
    subst hw
    rcases hc with ⟨rfl, rfl⟩ | ⟨rfl, rfl⟩ | ⟨rfl, rfl⟩
    · go_wp2
      go_roundw
      case rel => exact ⟨by first | trivial | rfl, Or.inr (Or.inl ⟨rfl, by first | rfl | simp⟩)⟩
      case measure => simp [intOf]
    · go_wp2
      go_roundw
      case rel => exact ⟨by first | trivial | rfl, Or.inr (Or.inr ⟨rfl, by go_num⟩)⟩
      case measure => simp [intOf]
    · go_wp2_with fail
      refine CG.out.mono ?_
      rintro e w1 ⟨cap, rfl, hrow, hb1⟩
      have H0 := Lib.hid h0
      have H1 := Lib.hid h1
      clear h0 h1
      go_wp2
      go_loopw [6, 27] (fun o i wr => ∃ v n zs, o = v ∧ ((i = .int .i64 0 ∧ n = 0 ∧ zs = []) ∨ (i = .int .i64 1 ∧ n = na ∧ zs = xs) ∨ (i = .int .i64 2 ∧ n = na + nb ∧ zs = xs ++ ys)) ∧ wr.ownsRow w.heap.size 50 2 v n zs ∧ (∃ ao c, v = .slice ao n c) ∧ Below w.heap.size w wr) (fun _ i _ => (2 - intOf i).toNat)
      case atStart => exact ⟨_, 0, [], rfl, Or.inl ⟨rfl, rfl, rfl⟩, hrow, ⟨_, _, rfl⟩, hb1⟩
      case round =>
        obtain ⟨_, n, zs, rfl, hc, hr, ⟨ao, c, rfl⟩, hbl⟩ := hrel
        have hsz := hbl.size
        have k0 := cellOf hbl (cell_of_lt H0.out) H0.out
        have k1 := cellOf hbl (cell_of_lt H1.out) H1.out
        rcases hc with ⟨rfl, rfl, rfl⟩ | ⟨rfl, rfl, rfl⟩ | ⟨rfl, rfl, rfl⟩
        · have S1 := Lib.hid (HSA.out.below hbl)
          go_wp2_with (at_builtin; refine wpList_append_srcK _ rfl _ _ 45 rfl w.heap.size 50 ti _ 2 16 Try.underlying45 hi hz0 hz1 hz2 rfl (by decide) _ 0 [] rfl hr _ na xs rfl S1.out (by unfold maxLen; omega) (by omega) hsz ?_; intro v3 w3 hr3 hg3 _)
          have hb3 : Below w.heap.size w w3 := hbl.grown hg3 hsz (fun g e => (hr.lt g e).1)
          rw [Nat.zero_add, List.nil_append] at hr3
          obtain ⟨a3, c3, rfl⟩ := row_form hr3
          clear hg3 k0 k1
          go_roundw
          case rel => exact ⟨_, na, xs, rfl, Or.inr (Or.inl ⟨rfl, rfl, rfl⟩), hr3, ⟨_, _, rfl⟩, hb3⟩
          case measure => simp [intOf]
        · have S1 := Lib.hid (HSB.out.below hbl)
          go_wp2_with (at_builtin; refine wpList_append_srcK _ rfl _ _ 45 rfl w.heap.size 50 ti _ 2 16 Try.underlying45 hi hz0 hz1 hz2 rfl (by decide) _ n zs rfl hr _ nb ys rfl S1.out (by unfold maxLen; omega) (by omega) hsz ?_; intro v3 w3 hr3 hg3 _)
          have hb3 : Below w.heap.size w w3 := hbl.grown hg3 hsz (fun g e => (hr.lt g e).1)
          obtain ⟨a3, c3, rfl⟩ := row_form hr3
          clear hg3 k0 k1
          go_roundw
          case rel => exact ⟨_, n + nb, zs ++ ys, rfl, Or.inr (Or.inr ⟨rfl, rfl, rfl⟩), hr3, ⟨_, _, rfl⟩, hb3⟩
          case measure => simp [intOf]
        · go_wp2
          go_ret
          exact ⟨_, rfl, hr, hbl⟩
/-- How two marks compare. -/
def cfTk (a b : GClockMark) : Int := cmpI a.pShown b.pShown
theorem ltTk_t {a b : GClockMark} : ltOf cfTk a b = true ↔ a.pShown < b.pShown := by
  unfold ltOf cfTk cmpI; rw [decide_eq_true_eq]; split <;> (try split) <;> omega
theorem ltTk_f {a b : GClockMark} : ltOf cfTk a b = false ↔ ¬ a.pShown < b.pShown := by
  rw [← ltTk_t, Bool.not_eq_true]
theorem swoTk : SWO (ltOf cfTk) where
  irrefl a := by rw [ltTk_f]; omega
  trans a b c h k := by rw [ltTk_t] at *; omega
  ntrans a b c h k := by rw [ltTk_f] at *; omega
theorem cloTk (a b : GClockMark) (w : World) :
    Calls Try.prog 128 #[.agg #[.int .i64 a.pShown, .int .i64 a.pTrue], .agg #[.int .i64 b.pShown, .int .i64 b.pTrue]] w fun e w' => e = .returned (.int .i64 (cfTk a b)) ∧ Grew w w' := by
  have ba := (Bx.new w [.int .i64 a.pShown, .int .i64 a.pTrue] 50).alloc (.cells #[.int .i64 b.pShown, .int .i64 b.pTrue] 50)
  have bb := Bx.new1 w (.cells #[.int .i64 a.pShown, .int .i64 a.pTrue] 50) [.int .i64 b.pShown, .int .i64 b.pTrue] 50
  have G : Grew w ((w.alloc (.cells #[.int .i64 a.pShown, .int .i64 a.pTrue] 50)).alloc (.cells #[.int .i64 b.pShown, .int .i64 b.pTrue] 50)) := ((Grew.refl w).alloc _).alloc _
  have a0 := ba.2 0 _ rfl
  have b0 := bb.2 0 _ rfl
  have C := Lib.hid (fun W => cmpCompare a.pShown b.pShown W)
  have e : cmpI a.pShown b.pShown = cfTk a b := rfl
  rw [e] at C
  clear e
  generalize cfTk a b = r at *
  go_enter Try.func128, Try.ntmps128
  go_wp2_with fail
  refine (C.out _).mono ?_
  rintro e w1 ⟨rfl, hw⟩
  subst hw
  go_wp2
  go_ret
  exact ⟨rfl, G⟩
theorem arr_get (xs : List GClockMark) [Inhabited GClockMark] {i : Nat} {s : GClockMark} (h : xs[i]? = some s) : xs.toArray[i]! = s := by
  obtain ⟨hi, h2⟩ := List.getElem?_eq_some_iff.1 h
  rw [getElem!_pos xs.toArray i (by simpa using hi)]
  simpa using h2
theorem holdsTk {xs : List GClockMark} [Inhabited GClockMark] {w : World} {L B g off n cap : Nat} (h : OwnK encClockMark 2 w L B (.slice (some ⟨g, off, none⟩) n cap) xs) : HoldsK encClockMark 2 w g off xs.toArray := by
  intro j hj
  rw [size_flatK] at hj
  rw [get_flatK _ _ _ _ hj]
  obtain ⟨s, hs⟩ := get_of_lt (l := xs) (k := j / 2) (by have : xs.toArray.size = xs.length := rfl; omega)
  obtain ⟨-, -, -, tc, tf⟩ := h.at hs
  have hl : j % 2 < (encClockMark s).length := by rw [encClockMark_len]; omega
  have h1 := tc (j % 2) _ (List.getElem?_eq_getElem hl)
  have e1 : off + j / 2 * 2 + j % 2 = off + j := by omega
  rw [e1] at h1
  refine ⟨?_, tf _⟩
  show _ = some ((encClockMark (xs.toArray[j / 2]!))[j % 2]!)
  rw [arr_get xs hs, h1, getElem!_pos (encClockMark s) (j % 2) hl]
theorem froz_sort {α : Type} [Inhabited α] (enc : α → List Value) (k : Nat) (w : World) (blk off m : Nat) (dk : Array α) (os : Array Obj) {b o : Nat} (hb : b < w.heap.size) (h : w.frozen? ⟨b, o, none⟩ = false) : (sortWorldK enc k w blk off m dk os).frozen? ⟨b, o, none⟩ = false := by
  unfold sortWorldK putRowK
  have e : (grow (putRow id (Sort.ahead w m) blk off (flatK enc k dk)) os).heap[b]? = (putRow id (Sort.ahead w m) blk off (flatK enc k dk)).heap[b]? := heap_grow_old _ _ (by simpa using hb)
  rw [World.frozen?_of_block (w := putRow id (Sort.ahead w m) blk off (flatK enc k dk)) e, frozen?_putRow]
  exact h
theorem below_sortTk {α : Type} [Inhabited α] (enc : α → List Value) (k : Nat) {w : World} {L g off m : Nat} {dk : Array α} {os : Array Obj} (hL : L ≤ g) (hLw : L ≤ w.heap.size) : RowKit.Below L w (sortWorldK enc k w g off m dk os) := by
  have hg : w.grownBy (sortWorldK enc k w g off m dk os) (some g) := by
    unfold sortWorldK putRowK
    refine ⟨rfl, rfl, rfl, by simp, fun k hk hne => ?_⟩
    rw [heap_grow_old _ _ (by simpa using hk)]
    have : g ≠ k := fun e => hne (by rw [e])
    simp [putRow, mapBlock, Sort.ahead, Array.getElem?_modify, this]
  exact Below.grown (Below.refl L w) hg hLw (fun q hq => by cases hq; exact hL)
theorem entersTk : ∀ args w, (callFunc 128 args).run Try.prog w = .ok (.enter 128 args) w := enters_of Try.func128 (by kernel_rfl) rfl
/-- The sort of the marks. -/
theorem sortTk {xs : List GClockMark} (hne : 0 < xs.length) (hlen : xs.length ≤ 1000) {w : World} {L g off cap : Nat} (ho : OwnK encClockMark 2 w L w.heap.size (.slice (some ⟨g, off, none⟩) xs.length cap) xs) :
    Calls Try.prog 127 #[.slice (some ⟨g, off, none⟩) xs.length cap, .func (.func 128) #[] #[]] w fun e w' => e = .returned (.tuple #[]) ∧ (∃ ys, ys.Perm xs ∧ ascS ys ∧ OwnK encClockMark 2 w' L w'.heap.size (.slice (some ⟨g, off, none⟩) xs.length cap) ys) ∧ RowKit.Below L w w' := by
  letI : Inhabited GClockMark := ⟨zeroClockMark⟩
  obtain ⟨s0, hs0⟩ := get_of_lt hne
  obtain ⟨hL, -, hblk, -, hfz⟩ := ho.at hs0
  have hH := holdsTk ho
  have hS := AnyQ.slices_SortFunc Try.sortK_127 2 Try.isAgg50 Try.sizeOf50 encClockMark encClockMark_len (fun x u hu => oneCM [x] u (by simpa using hu)) cfTk swoTk 128 #[] g off cap xs.toArray w entersTk (by intro m os dk _ a b; exact cloTk a b _) hH hblk (by have : xs.toArray.size = xs.length := rfl; omega)
  have hsz : xs.toArray.size = xs.length := rfl
  rw [hsz] at hS
  refine hS.mono ?_
  rintro e w' ⟨rfl, dk, m, os, hp, hs, rfl⟩
  obtain ⟨hs1, -, hs2⟩ := hp
  have hdk : dk.size = xs.length := hs1
  have hperm : dk.toList.Perm xs := by
    have a1 : dk.extract 0 xs.length = dk := by rw [← hdk]; simp
    have a2 : xs.toArray.extract 0 xs.length = xs.toArray := by rw [← hsz]; simp
    rw [a1, a2] at hs2
    simpa using hs2
  have hK := holdsK_sortWorldK_c encClockMark 2 w g off xs.toArray dk m os hH hblk hs1
  refine ⟨rfl, ⟨dk.toList, hperm, ?_, ?_⟩, below_sortTk encClockMark 2 hL (Nat.le_trans hL (Nat.le_of_lt hblk))⟩
  · unfold ascS
    rw [List.pairwise_iff_getElem]
    intro i j hi hj hij
    have hi' : i < dk.size := by simpa using hi
    have hj' : j < dk.size := by simpa using hj
    have := ltTk_f.1 (hs i j (Nat.zero_le _) hij (by omega))
    rw [getElem!_pos dk j hj', getElem!_pos dk i hi'] at this
    simp only [Array.getElem_toList]
    omega
  · obtain ⟨ao, cap', e1, hc1, hc2, hc3, -⟩ := ho
    simp only [Value.slice.injEq] at e1
    obtain ⟨rfl, -, rfl⟩ := e1
    have hl2 : dk.toList.length = xs.length := by simp [hdk]
    refine ⟨some ⟨g, off, none⟩, cap, by rw [hl2], by rw [hl2]; exact hc1, hc2, (fun e => by cases e), fun i x hx => ⟨g, off, rfl, hL, ?_, ?_, fun j c hj => ?_, fun o => froz_sort encClockMark 2 w g off m dk os hblk (hfz o)⟩⟩
    · exact Nat.lt_of_lt_of_le hblk (size_sortWorldK_c encClockMark 2 w g off m dk os)
    · exact Nat.lt_of_lt_of_le hblk (size_sortWorldK_c encClockMark 2 w g off m dk os)
    · have hi' := List.getElem?_eq_some_iff.1 hx
      have hil : i < dk.size := by simpa using hi'.1
      have hj' := List.getElem?_eq_some_iff.1 hj
      have hjl : j < 2 := by have := hj'.1; rwa [encClockMark_len] at this
      refine (hK.cell hil hjl).1.trans ?_
      have e9 : dk[i]! = x := by rw [getElem!_pos dk i hil]; simpa using hi'.2
      rw [e9, getElem!_pos (encClockMark x) j hj'.1, hj'.2]
end Go.Proofs.Ytklilfbokpljkac
