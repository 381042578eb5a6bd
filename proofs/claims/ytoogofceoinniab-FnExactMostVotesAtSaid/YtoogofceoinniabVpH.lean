/- Votes: the program's spans at a place, in ascending order. -/
import Derived.Test.YtoogofceoinniabVpM
import Derived.Test.YtoogofceoinniabVpC
import Derived.Test.YtoogofceoinniabSrt
import Derived.Test.YtoogofceoinniabIns
import Derived.Test.YtoogofceoinniabAcc
import Derived.Test.YtoogofceoinniabVoE
namespace Go.Proofs.Ytoogofceoinniab
open Go.ChangeShapes Go.WideShapes Go.ChangeAt Go.RowKit Go.ChangeMaps Go.Sort Go.Shelf
set_option linter.unusedSimpArgs false
set_option linter.unusedVariables false
set_option linter.unusedSimpArgs false
set_option linter.unusedVariables false

abbrev GSpan := Int × Int
def encSpan (s : GSpan) : List Value := [.int .i64 s.1, .int .i64 s.2]
theorem encSpan_len : ∀ s, (encSpan s).length = 2 := fun _ => rfl
theorem oneSpan (xs : List GSpan) : ∀ u ∈ xs.flatMap encSpan, u.oneCell' = true := by
  intro u hu
  obtain ⟨s, hs, h⟩ := List.mem_flatMap.1 hu
  simp only [encSpan, List.mem_cons, List.not_mem_nil, or_false] at h
  rcases h with rfl | rfl <;> rfl
theorem oneCellSp (s : GSpan) : ∀ u ∈ encSpan s, u.oneCell' = true := fun u hu => oneSpan [s] u (by simpa using hu)
theorem info_Span : (Try.prog.info? 88).map (fun i => (i.zero, i.size, i.bytes)) = some (some (.agg #[.int .i64 0, .int .i64 0]), 2, 16) := by kernel_rfl
def cfSp (a b : GSpan) : Int := cmpI a.1 b.1
theorem ltSp_t {a b : GSpan} : ltOf cfSp a b = true ↔ a.1 < b.1 := by
  unfold ltOf cfSp cmpI; rw [decide_eq_true_eq]; split <;> (try split) <;> omega
theorem ltSp_f {a b : GSpan} : ltOf cfSp a b = false ↔ ¬ a.1 < b.1 := by
  rw [← ltSp_t, Bool.not_eq_true]
theorem swoSp : SWO (ltOf cfSp) where
  irrefl a := by rw [ltSp_f]; omega
  trans a b c h k := by rw [ltSp_t] at *; omega
  ntrans a b c h k := by rw [ltSp_f] at *; omega
theorem cloSp (a b : GSpan) (w : World) :
    Calls Try.prog 107 #[.agg #[.int .i64 a.1, .int .i64 a.2], .agg #[.int .i64 b.1, .int .i64 b.2]] w fun e w' => e = .returned (.int .i64 (cfSp a b)) ∧ Grew w w' := by
  have ba := (Bx.new w [.int .i64 a.1, .int .i64 a.2] 88).alloc (.cells #[.int .i64 b.1, .int .i64 b.2] 88)
  have bb := Bx.new1 w (.cells #[.int .i64 a.1, .int .i64 a.2] 88) [.int .i64 b.1, .int .i64 b.2] 88
  have G : Grew w ((w.alloc (.cells #[.int .i64 a.1, .int .i64 a.2] 88)).alloc (.cells #[.int .i64 b.1, .int .i64 b.2] 88)) := ((Grew.refl w).alloc _).alloc _
  have a0 := ba.2 0 _ rfl
  have b0 := bb.2 0 _ rfl
  have C := Lib.hid (fun W => cmpCompare a.1 b.1 W)
  have e : cmpI a.1 b.1 = cfSp a b := rfl
  rw [e] at C
  clear e
  generalize cfSp a b = r at *
  go_enter Try.func107, Try.ntmps107
  go_wp2_with fail
  refine (C.out _).mono ?_
  rintro e w1 ⟨rfl, hw⟩
  subst hw
  go_wp2
  go_ret
  exact ⟨rfl, G⟩
theorem arr_getSp (xs : List GSpan) [Inhabited GSpan] {i : Nat} {s : GSpan} (h : xs[i]? = some s) : xs.toArray[i]! = s := by
  obtain ⟨hi, h2⟩ := List.getElem?_eq_some_iff.1 h
  rw [getElem!_pos xs.toArray i (by simpa using hi)]
  simpa using h2
theorem holdsSp {xs : List GSpan} [Inhabited GSpan] {w : World} {L B g off n cap : Nat} (h : OwnK encSpan 2 w L B (.slice (some ⟨g, off, none⟩) n cap) xs) : HoldsK encSpan 2 w g off xs.toArray := by
  intro j hj
  rw [size_flatK] at hj
  rw [get_flatK _ _ _ _ hj]
  obtain ⟨s, hs⟩ := get_of_lt (l := xs) (k := j / 2) (by have : xs.toArray.size = xs.length := rfl; omega)
  obtain ⟨-, -, -, tc, tf⟩ := h.at hs
  have hl : j % 2 < (encSpan s).length := by rw [encSpan_len]; omega
  have h1 := tc (j % 2) _ (List.getElem?_eq_getElem hl)
  have e1 : off + j / 2 * 2 + j % 2 = off + j := by omega
  rw [e1] at h1
  refine ⟨?_, tf _⟩
  show _ = some ((encSpan (xs.toArray[j / 2]!))[j % 2]!)
  rw [arr_getSp xs hs, h1, getElem!_pos (encSpan s) (j % 2) hl]
theorem froz_sortSp {α : Type} [Inhabited α] (enc : α → List Value) (k : Nat) (w : World) (blk off m : Nat) (dk : Array α) (os : Array Obj) {b o : Nat} (hb : b < w.heap.size) (h : w.frozen? ⟨b, o, none⟩ = false) : (sortWorldK enc k w blk off m dk os).frozen? ⟨b, o, none⟩ = false := by
  unfold sortWorldK putRowK
  have e : (grow (putRow id (Sort.ahead w m) blk off (flatK enc k dk)) os).heap[b]? = (putRow id (Sort.ahead w m) blk off (flatK enc k dk)).heap[b]? := heap_grow_old _ _ (by simpa using hb)
  rw [World.frozen?_of_block (w := putRow id (Sort.ahead w m) blk off (flatK enc k dk)) e, frozen?_putRow]
  exact h
theorem below_sortSp {α : Type} [Inhabited α] (enc : α → List Value) (k : Nat) {w : World} {L g off m : Nat} {dk : Array α} {os : Array Obj} (hL : L ≤ g) (hLw : L ≤ w.heap.size) : Below L w (sortWorldK enc k w g off m dk os) := by
  have hg : w.grownBy (sortWorldK enc k w g off m dk os) (some g) := by
    unfold sortWorldK putRowK
    refine ⟨rfl, rfl, rfl, by simp, fun k hk hne => ?_⟩
    rw [heap_grow_old _ _ (by simpa using hk)]
    have : g ≠ k := fun e => hne (by rw [e])
    simp [putRow, mapBlock, Sort.ahead, Array.getElem?_modify, this]
  exact Below.grown (Below.refl L w) hg hLw (fun q hq => by cases hq; exact hL)
theorem entersSp : ∀ args w, (callFunc 107 args).run Try.prog w = .ok (.enter 107 args) w := enters_of Try.func107 (by kernel_rfl) rfl
/-- The sort of the marks. -/
theorem sortSp {xs : List GSpan} (hne : 0 < xs.length) (hlen : xs.length ≤ 1000) {w : World} {L g off cap : Nat} (ho : OwnK encSpan 2 w L w.heap.size (.slice (some ⟨g, off, none⟩) xs.length cap) xs) :
    Calls Try.prog 106 #[.slice (some ⟨g, off, none⟩) xs.length cap, .func (.func 107) #[] #[]] w fun e w' => e = .returned (.tuple #[]) ∧ (∃ ys, ys.Perm xs ∧ ascP ys ∧ OwnK encSpan 2 w' L w'.heap.size (.slice (some ⟨g, off, none⟩) xs.length cap) ys) ∧ Below L w w' := by
  letI : Inhabited GSpan := ⟨(0, 0)⟩
  obtain ⟨s0, hs0⟩ := get_of_lt hne
  obtain ⟨hL, -, hblk, -, hfz⟩ := ho.at hs0
  have hH := holdsSp ho
  have hS := AnyQ.slices_SortFunc Try.sortK_106 2 Try.isAgg88 Try.sizeOf88 encSpan encSpan_len (fun x u hu => oneSpan [x] u (by simpa using hu)) cfSp swoSp 107 #[] g off cap xs.toArray w entersSp (by intro m os dk _ a b; exact cloSp a b _) hH hblk (by have : xs.toArray.size = xs.length := rfl; omega)
  have hsz : xs.toArray.size = xs.length := rfl
  rw [hsz] at hS
  refine hS.mono ?_
  rintro e w' ⟨rfl, dk, m, os, hp, hs, rfl⟩
  obtain ⟨hs1, -, hs2⟩ := hp
  have hdk : dk.size = xs.length := hs1
  have hperm : dk.toList.Perm xs := by
    have a1 : dk.extract 0 xs.length = dk := by rw [← hdk]; simp
    have a2 : xs.toArray.extract 0 xs.length = xs.toArray := by rw [← hsz]; simp
    rw [a1, a2] at hs2
    simpa using hs2
  have hK := holdsK_sortWorldK_c encSpan 2 w g off xs.toArray dk m os hH hblk hs1
  refine ⟨rfl, ⟨dk.toList, hperm, ?_, ?_⟩, below_sortSp encSpan 2 hL (Nat.le_trans hL (Nat.le_of_lt hblk))⟩
  · unfold ascP
    rw [List.pairwise_iff_getElem]
    intro i j hi hj hij
    have hi' : i < dk.size := by simpa using hi
    have hj' : j < dk.size := by simpa using hj
    have := ltSp_f.1 (hs i j (Nat.zero_le _) hij (by omega))
    rw [getElem!_pos dk j hj', getElem!_pos dk i hi'] at this
    simp only [Array.getElem_toList]
    omega
  · obtain ⟨ao, cap', e1, hc1, hc2, hc3, -⟩ := ho
    simp only [Value.slice.injEq] at e1
    obtain ⟨rfl, -, rfl⟩ := e1
    have hl2 : dk.toList.length = xs.length := by simp [hdk]
    refine ⟨some ⟨g, off, none⟩, cap, by rw [hl2], by rw [hl2]; exact hc1, hc2, (fun e => by cases e), fun i x hx => ⟨g, off, rfl, hL, ?_, ?_, fun j c hj => ?_, fun o => froz_sortSp encSpan 2 w g off m dk os hblk (hfz o)⟩⟩
    · exact Nat.lt_of_lt_of_le hblk (size_sortWorldK_c encSpan 2 w g off m dk os)
    · exact Nat.lt_of_lt_of_le hblk (size_sortWorldK_c encSpan 2 w g off m dk os)
    · have hi' := List.getElem?_eq_some_iff.1 hx
      have hil : i < dk.size := by simpa using hi'.1
      have hj' := List.getElem?_eq_some_iff.1 hj
      have hjl : j < 2 := by have := hj'.1; rwa [encSpan_len] at this
      refine (hK.cell hil hjl).1.trans ?_
      have e9 : dk[i]! = x := by rw [getElem!_pos dk i hil]; simpa using hi'.2
      rw [e9, getElem!_pos (encSpan x) j hj'.1, hj'.2]

set_option maxRecDepth 100000 in
set_option maxHeartbeats 4000000 in
/-- The spans that have ticks, in ascending order of the first one. -/
theorem implSpans (xs : List GArrival) (v : Value) (x y : Int) (w : World) (B : Nat) (h : ArrivalL w B v xs) (hB : B ≤ w.heap.size) (hok : okArs xs) (hx : 0 ≤ x ∧ x ≤ 999) (hy : 0 ≤ y ∧ y ≤ 999) :
    Calls Try.prog 100 #[v, .int .i64 x, .int .i64 y] w fun e w' => ∃ v' T, e = .returned v' ∧ OwnK encSpan 2 w' w.heap.size w'.heap.size v' T ∧ T.Perm (spL xs x y) ∧ ascP T ∧ Below w.heap.size w w' := by
  have hl8 := hok.2
  have hrow0 := rowK_empty w (base := w.heap.size) 88 2 (Nat.le_refl _)
  have N0 := (Below.refl w.heap.size w).alloc (Nat.le_refl _) (.cells #[] 88)
  have HOK := Lib.hid hok
  have HX := Lib.hid hx
  have HY := Lib.hid hy
  obtain ⟨ti, hi, hz0, hz1, hz2⟩ := info_parts info_Span
  obtain ⟨ao, cap, rfl, hcap, hmax, -, hc⟩ := h
  unfold maxLen at hmax
  have HC := Lib.hid hc
  clear hc hok hx hy
  go_enter Try.func100, Try.ntmps100
  go_wp2
  go_loopw [7, 14] (fun q i wr => ∃ (k n : Nat) (v : Value) (il : List GSpan), k ≤ xs.length ∧ i = .int .i64 k ∧ q = v ∧ n ≤ k ∧ Hid (il = spL (xs.take k) x y) ∧ Hid (il.length = n) ∧ wr.ownsRow w.heap.size 88 2 v n (il.flatMap encSpan) ∧ (∃ ao cap, v = .slice ao n cap) ∧ Below w.heap.size w wr)
    (fun _ i _ => xs.length - (intOf i).toNat)
  case atStart => exact ⟨0, 0, _, [], Nat.zero_le _, rfl, rfl, Nat.le_refl _, Lib.hid rfl, Lib.hid rfl, hrow0, ⟨_, _, rfl⟩, N0⟩
  case round =>
    obtain ⟨k, n, _, il, hk, rfl, rfl, hnk, HIL, HLN, hrow, ⟨oa, oc, rfl⟩, hbl⟩ := hrel
    have hsz := hbl.size
    clear N0 hrow0
    by_cases hlt : k < xs.length
    case neg =>
      obtain rfl : k = xs.length := by omega
      have HE : Hid (il = spL xs x y) := Lib.hid (by rw [HIL.out, List.take_length])
      have ho := OwnK.of_row encSpan_len (by omega) hrow
      by_cases hn0 : n = 0
      case pos =>
        subst hn0
        have e0 : il = [] := List.eq_nil_of_length_eq_zero HLN.out
        have SN := Lib.hid (fun fv => AnyF.slices_SortFunc_none Try.sortK_106 oa oc fv wr)
        have HP : Hid (([] : List GSpan).Perm (spL xs x y)) := Lib.hid (by rw [← HE.out, e0])
        rw [e0] at ho
        clear e0 hrow
        go_wp2_with fail
        refine (SN.out _).mono ?_
        rintro e w4 ⟨rfl, q4⟩
        obtain rfl : wr = w4 := q4.symm
        go_wp2
        go_ret
        exact ⟨_, [], rfl, ho, HP.out, List.Pairwise.nil, hbl⟩
      case neg =>
        have hln : il.length = n := HLN.out
        obtain ⟨ao3, cap3, e3, hle3, hmax3, _, h3⟩ := _root_.id ho
        obtain ⟨s0, hs0⟩ := get_of_lt (l := il) (k := 0) (by omega)
        obtain ⟨g, off, e4, -⟩ := h3 0 s0 hs0
        simp only [Value.slice.injEq] at e3
        obtain ⟨rfl, -, rfl⟩ := e3
        subst e4
        clear h3 hs0 hrow
        rw [← hln] at ho
        have SN := Lib.hid (sortSp (xs := il) (by omega) (by omega) ho)
        rw [hln] at SN
        clear hln ho
        go_wp2_with fail
        refine SN.out.mono ?_
        rintro e w4 ⟨rfl, ⟨T, hT, hA, hO⟩, hb4⟩
        have HP := Lib.hid hT
        have HA := Lib.hid hA
        clear hT hA
        go_wp2
        go_ret
        exact ⟨_, T, rfl, hO, by rw [← HE.out]; exact HP.out, HA.out, hbl.trans hb4⟩
    have hk0 : (0 : Int) ≤ (k : Int) := by omega
    have hk1 : (k : Int) < (xs.length : Int) := by omega
    have hk2 : (k : Int) ≤ 8 := by omega
    obtain ⟨a, ha⟩ := get_of_lt hlt
    have hoka := okArs_mem HOK.out (List.mem_of_getElem? ha)
    obtain ⟨b, off, rfl, hb, hcell⟩ := HC.out k a ha
    have c0 : wr.cell? ⟨b, off + k * 5, none⟩ = some (.int .i64 a.pId) := cellOf hbl (by omega) (hcell 0 _ rfl)
    have c1 : wr.cell? ⟨b, off + k * 5 + 1, none⟩ = some (.int .i64 a.pX) := cellOf hbl (by omega) (hcell 1 _ rfl)
    have c2 : wr.cell? ⟨b, off + k * 5 + 2, none⟩ = some (.int .i64 a.pY) := cellOf hbl (by omega) (hcell 2 _ rfl)
    have c3 : wr.cell? ⟨b, off + k * 5 + 3, none⟩ = some (.int .i64 a.pTick) := cellOf hbl (by omega) (hcell 3 _ rfl)
    have c4 : wr.cell? ⟨b, off + k * 5 + 4, none⟩ = some (.int .i64 a.pError) := cellOf hbl (by omega) (hcell 4 _ rfl)
    have HT := Lib.hid (spL_take ha x y)
    obtain ⟨l, hl⟩ : ∃ l, loT a x y = l := ⟨_, rfl⟩
    obtain ⟨g, hg⟩ : ∃ g, hiT a x y = g := ⟨_, rfl⟩
    have CS := Lib.hid (fun W => implSpan a x y l g W hoka HX.out HY.out hl hg)
    rw [hl, hg] at HT
    obtain ⟨W1, hW1⟩ : ∃ W1, wr.alloc (.cells #[.int .i64 a.pId, .int .i64 a.pX, .int .i64 a.pY, .int .i64 a.pTick, .int .i64 a.pError] 28) = W1 := ⟨_, rfl⟩
    have A1 : Below wr.heap.size wr W1 := hW1 ▸ (Below.refl _ _).alloc (Nat.le_refl _) _
    have bx : Bx W1 wr.heap.size [.int .i64 a.pId, .int .i64 a.pX, .int .i64 a.pY, .int .i64 a.pTick, .int .i64 a.pError] := hW1 ▸ Bx.new wr [.int .i64 a.pId, .int .i64 a.pX, .int .i64 a.pY, .int .i64 a.pTick, .int .i64 a.pError] 28
    have N4 := hbl.trans (A1.mono hsz)
    have z4 := N4.size
    have hr1 := row_below hrow A1
    have e0 := bx.2 0 _ rfl
    have e1 := bx.2 1 _ rfl
    have e2 := bx.2 2 _ rfl
    have e3 := bx.2 3 _ rfl
    have e4 := bx.2 4 _ rfl
    clear ha hcell hoka hrow A1 hl hg
    go_wp2_with fail
    refine (CS.out _).mono ?_
    rintro e w4 ⟨rfl, hb4⟩
    have N5 := N4.trans (hb4.mono z4)
    have hr2 := row_below hr1 hb4
    clear hW1 e0 e1 e2 e3 e4 c0 c1 c2 c3 c4 hb4 bx hr1 N4
    obtain ⟨W5, hW5⟩ : ∃ W5, w4.alloc (.cells #[.int .i64 l, .int .i64 g] 88) = W5 := ⟨_, rfl⟩
    have A5 : Below w4.heap.size w4 W5 := hW5 ▸ (Below.refl _ _).alloc (Nat.le_refl _) _
    have bS : Bx W5 w4.heap.size [.int .i64 l, .int .i64 g] := hW5 ▸ Bx.new w4 [.int .i64 l, .int .i64 g] 88
    have N6 := N5.trans (A5.mono N5.size)
    have hr3 := row_below hr2 A5
    have s0 := bS.2 0 _ rfl
    have s1 := bS.2 1 _ rfl
    clear hr2 A5
    by_cases hle : g < l
    case pos =>
      have CE := Lib.hid (fun W => spanEmpty l g true W (decide_eq_true hle))
      have HIL2 : Hid (il = spL (xs.take (k + 1)) x y) := Lib.hid (by rw [HT.out, if_neg (by omega), HIL.out])
      clear hle
      go_wp2_with fail
      refine (CE.out _).mono ?_
      rintro e w6 ⟨rfl, hb6⟩
      have hr4 := row_below hr3 hb6
      have N7 := N6.trans (hb6.mono N6.size)
      go_wp2
      go_roundw
      case rel => exact ⟨k + 1, n, _, il, by omega, by go_num, rfl, by omega, HIL2, HLN, hr4, ⟨_, _, rfl⟩, N7⟩
      case measure => simp [intOf]; omega
    case neg =>
      have CE := Lib.hid (fun W => spanEmpty l g false W (decide_eq_false hle))
      have HIL2 : Hid (il ++ [(l, g)] = spL (xs.take (k + 1)) x y) := Lib.hid (by rw [HT.out, if_pos (by omega), HIL.out])
      have HLN2 : Hid ((il ++ [(l, g)]).length = n + 1) := Lib.hid (by rw [List.length_append, HLN.out]; rfl)
      clear hle
      go_wp2_with fail
      refine (CE.out _).mono ?_
      rintro e w6 ⟨rfl, hb6⟩
      have hr4 := row_below hr3 hb6
      have N7 := N6.trans (hb6.mono N6.size)
      have z7 := N7.size
      have bS2 := bS.below hb6
      clear hr3 hb6 bS s0 s1 hW5
      have s0 := bS2.2 0 _ rfl
      have s1 := bS2.2 1 _ rfl
      have HSRC := Lib.hid (srcK_box (Bx.new w6 (encSpan (l, g)) 88) (oneCellSp (l, g)))
      go_wp2_with (at_builtin; refine wpList_append_srcK _ rfl _ _ 114 rfl w.heap.size 88 ti (.agg #[.int .i64 0, .int .i64 0]) 2 16 Try.underlying114 hi hz0 hz1 hz2 rfl (by decide) _ n (il.flatMap encSpan) rfl (hr4.alloc _) _ 1 (encSpan (l, g)) rfl HSRC.out (by unfold maxLen; omega) (by omega) (by first | omega | (simp; done) | (simp; omega)) ?_; intro v8 w8 hown' hgrow _; have b8 := below_app2 hr4 hgrow z7 (Nat.le_refl _))
      have hrow3 : w8.ownsRow w.heap.size 88 2 v8 (n + 1) ((il ++ [(l, g)]).flatMap encSpan) := by simpa using hown'
      obtain ⟨a3, c3, rfl⟩ := row_form hrow3
      clear hgrow hr4 hown' HSRC bS2 s0 s1
      go_wp2
      go_roundw
      case rel => exact ⟨k + 1, n + 1, _, _, by omega, by go_num, rfl, by omega, HIL2, HLN2, hrow3, ⟨_, _, rfl⟩, N7.trans b8⟩
      case measure => simp [intOf]; omega
end Go.Proofs.Ytoogofceoinniab
