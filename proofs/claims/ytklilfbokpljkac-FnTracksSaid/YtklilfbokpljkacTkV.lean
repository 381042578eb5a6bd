/- Tracks merged: the mathematics; marks compared; the program. -/
import Derived.Test.YtklilfbokpljkacTkC2
import Derived.Test.YtklilfbokpljkacTkH
import Derived.Laws.StructEq
namespace Go.Proofs.Ytklilfbokpljkac
open Go.ChangeShapes Go.WideShapes Go.ChangeAt Go.RowKit Go.ChangeMaps Go.Shelf Go.Lib
set_option linter.unusedSimpArgs false
set_option linter.unusedVariables false
set_option linter.unusedSimpArgs false
set_option linter.unusedVariables false

def eqM (x y : GClockMark) : Bool := x.pShown == y.pShown && x.pTrue == y.pTrue
theorem eqM_iff {x y : GClockMark} : eqM x y = true ↔ x = y := by
  unfold eqM
  rw [Bool.and_eq_true, beq_iff_eq, beq_iff_eq]
  constructor
  · rintro ⟨h1, h2⟩
    cases x; cases y
    simp only at h1 h2
    rw [h1, h2]
  · rintro rfl; exact ⟨rfl, rfl⟩
def hasM (a : List GClockMark) (m : GClockMark) : Bool := a.any (eqM m)
theorem hasM_iff {a : List GClockMark} {m : GClockMark} : hasM a m = true ↔ m ∈ a := by
  unfold hasM
  rw [List.any_eq_true]
  constructor
  · rintro ⟨y, hy, e⟩; rw [eqM_iff.1 e]; exact hy
  · intro h; exact ⟨m, h, eqM_iff.2 rfl⟩
theorem hasM_no {a : List GClockMark} {m : GClockMark} (h : hasM a m = false) : m ∉ a := fun q => by rw [hasM_iff.2 q] at h; cases h
/-- The marks of b that a has not. -/
def newM (a b : List GClockMark) : List GClockMark := b.filter fun m => !hasM a m
theorem newM_take {a b : List GClockMark} {k : Nat} {m : GClockMark} (h : b[k]? = some m) : newM a (b.take (k + 1)) = if hasM a m = true then newM a (b.take k) else newM a (b.take k) ++ [m] := by
  unfold newM
  rw [take_snoc h, List.filter_append]
  by_cases q : hasM a m = true
  · rw [if_pos q]; simp [q]
  · rw [if_neg q]; simp [q]
theorem newM_len (a b : List GClockMark) : (newM a b).length ≤ b.length := List.length_filter_le _ _
theorem mergeR_perm (a : List GClockMark) : ∀ (b out : List GClockMark), (mergeR a out b).Perm (out ++ newM a b)
  | [], out => by rw [mergeR]; simp [newM]
  | m :: r, out => by
    rw [mergeR]
    by_cases h : m ∈ a
    · rw [if_pos h]
      have e : newM a (m :: r) = newM a r := by unfold newM; rw [List.filter_cons]; simp [hasM_iff.2 h]
      rw [e]
      exact mergeR_perm a r out
    · rw [if_neg h]
      have e : newM a (m :: r) = m :: newM a r := by
        unfold newM
        rw [List.filter_cons]
        have : hasM a m = false := by cases q : hasM a m; rfl; exact absurd (hasM_iff.1 q) h
        simp [this]
      rw [e]
      refine (mergeR_perm a r _).trans ?_
      have := (putTk_perm out m).append_right (newM a r)
      simpa using this
theorem mergeR_ascS (a : List GClockMark) : ∀ (b out : List GClockMark), ascS out → ascS (mergeR a out b)
  | [], out, h => h
  | m :: r, out, h => by
    rw [mergeR]
    by_cases q : m ∈ a
    · rw [if_pos q]; exact mergeR_ascS a r out h
    · rw [if_neg q]; exact mergeR_ascS a r _ (putTk_ascS h m)
theorem mergeR_snoc (a : List GClockMark) : ∀ (b out : List GClockMark) (m : GClockMark), mergeR a out (b ++ [m]) = if hasM a m = true then mergeR a out b else putTk (mergeR a out b) m
  | [], out, m => by
    rw [List.nil_append, mergeR, mergeR, mergeR]
    by_cases q : m ∈ a
    · rw [if_pos q, if_pos (hasM_iff.2 q)]
    · rw [if_neg q, if_neg (fun h => q (hasM_iff.1 h))]
  | x :: r, out, m => by
    rw [List.cons_append, mergeR, mergeR_snoc a r _ m, mergeR]
theorem mergeR_len (a : List GClockMark) (b out : List GClockMark) : (mergeR a out b).length ≤ out.length + b.length ∧ out.length ≤ (mergeR a out b).length := by
  rw [(mergeR_perm a b out).length_eq, List.length_append]
  have := newM_len a b
  omega
noncomputable def okMrg (a b : List GClockMark) : Bool := goodTk a && (goodTk b && goodTk (mergeTk a b))
noncomputable def resMrg (a b : List GClockMark) : List GClockMark := if okMrg a b then mergeTk a b else []
theorem resMrg_len (a b : List GClockMark) : szsClockMark (resMrg a b) ≤ 1048576 := by
  rw [szsClockMark_split]
  unfold resMrg
  split
  · rename_i h
    unfold okMrg at h
    rw [Bool.and_eq_true, Bool.and_eq_true] at h
    have := (goodTk_yes h.2.2).1.2
    omega
  · simp
theorem eqlCM : EqlAt Try.prog 50 (fun x => .agg (encClockMark x).toArray) eqM := by
  refine ⟨fun x y w => ?_, GuardAt.agg _ (by kernel_rfl)⟩
  have u3 := Try.underlying3
  have a3 := Try.isAgg3
  have z3 := Try.sizeOf3
  have hS : Try.prog.underlying 50 = some (.struct (Try.prog.fieldsOf 50)) := by kernel_rfl
  have hp : Try.prog.stoodInHeld 50 = false := by kernel_rfl
  simp only [encClockMark]
  rw [run_eql_struct, show (10000 : Nat) = 9999 + 1 from rfl, run_equalIn_agg w 9999 50 _ _ hS hp]
  simp only [Program.fieldsOf, Try.underlying50]
  go_simp
  by_cases h1 : x.pShown = y.pShown <;> by_cases h2 : x.pTrue = y.pTrue <;> simp [h1, h2, eqM]
theorem implHas {xs : List GClockMark} {b off cap n : Nat} (m : GClockMark) (w : World) (hn : xs.length = n) (hl : n ≤ 1000) (hc : ∀ k x, xs[k]? = some x → ∀ j c, (encClockMark x)[j]? = some c → w.cell? ⟨b, off + k * 2 + j, none⟩ = some c) :
    Calls Try.prog 115 #[.slice (some ⟨b, off, none⟩) n cap, .agg #[.int .i64 m.pShown, .int .i64 m.pTrue]] w fun e w' => e = .returned (.bool (hasM xs m)) ∧ RowKit.Below w.heap.size w w' := by
  letI : Inhabited GClockMark := ⟨zeroClockMark⟩
  have h := AnyQ.slices_Contains Try.hasK_115 2 Try.isAgg50 Try.sizeOf50 encClockMark encClockMark_len eqM eqlCM b off n cap xs m w (by omega) (by omega) (fun j hj i u hu => hc j xs[j]! (by rw [getElem!_pos xs j hj]; exact List.getElem?_eq_getElem hj) i u hu)
  rw [List.take_of_length_le (by omega)] at h
  exact h
theorem okMrg_no {a b : List GClockMark} (h : goodTk a = false ∨ goodTk b = false) : okMrg a b = false ∧ resMrg a b = [] := by
  have e : okMrg a b = false := by unfold okMrg; rcases h with h | h <;> rw [h] <;> simp
  exact ⟨e, by unfold resMrg; rw [e]; rfl⟩
theorem okMrg_of {a b : List GClockMark} (h1 : goodTk a = true) (h2 : goodTk b = true) : okMrg a b = goodTk (mergeTk a b) ∧ resMrg a b = if goodTk (mergeTk a b) = true then mergeTk a b else [] := by
  unfold resMrg okMrg
  rw [h1, h2, Bool.true_and, Bool.true_and]
  exact ⟨rfl, rfl⟩
set_option maxRecDepth 100000 in
set_option maxHeartbeats 4000000 in
theorem implMrg (xs : List GClockMark) (v : Value) (ys : List GClockMark) (v2 : Value) (w : World) (B : Nat) (h : ClockMarkL w B v xs) (h2 : ClockMarkL w B v2 ys) (hB : B ≤ w.heap.size) (hn : szsClockMark xs ≤ 1048576) (hn2 : szsClockMark ys ≤ 1048576) (_ : ∀ s ∈ xs, wfClockMark s) (_ : ∀ s ∈ ys, wfClockMark s) :
    Calls Try.prog 69 #[v, v2] w fun e w' => ∃ v', e = .returned (.tuple #[v', .bool (okMrg xs ys)]) ∧ ClockMarkO w' w.heap.size w'.heap.size v' (resMrg xs ys) ∧ RowKit.Below w.heap.size w w' := by
  cases hg : goodTk xs with
  | false =>
    obtain ⟨e1, e2⟩ := okMrg_no (b := ys) (Or.inl hg)
    rw [e1, e2]
    have C := Lib.hid (implGoodTk xs v w B h hB false hg)
    clear hg e1 e2
    obtain ⟨ao, cap, rfl⟩ := h.form
    obtain ⟨ao2, cap2, rfl⟩ := h2.form
    clear h h2
    go_enter Try.func69, Try.ntmps69
    go_wp2_with fail
    refine C.out.mono ?_
    rintro e w1 ⟨rfl, hb⟩
    go_wp2
    go_ret2
    exact ⟨_, rfl, ownK_empty encClockMark_len (by omega) w1 _ hb.size, hb.alloc hb.size _⟩
  | true =>
  have C := Lib.hid (implGoodTk xs v w B h hB true hg)
  have HK := Lib.hid (goodTk_yes hg)
  cases hg2 : goodTk ys with
  | false =>
    obtain ⟨e1, e2⟩ := okMrg_no (a := xs) (Or.inr hg2)
    rw [e1, e2]
    have C2 := Lib.hid (fun w' (q : RowKit.Below w.heap.size w w') => implGoodTk ys v2 w' B (h2.below (q.mono hB)) (Nat.le_trans hB q.size) false hg2)
    clear hg hg2 e1 e2
    obtain ⟨ao, cap, rfl⟩ := h.form
    obtain ⟨ao2, cap2, rfl⟩ := h2.form
    clear h h2
    go_enter Try.func69, Try.ntmps69
    go_wp2_with fail
    refine C.out.mono ?_
    rintro e w1 ⟨rfl, hb⟩
    go_wp2_with fail
    refine (C2.out _ hb).mono ?_
    rintro e w2 ⟨rfl, hb2⟩
    have hb3 := hb.trans (hb2.mono hb.size)
    go_wp2
    go_ret2
    exact ⟨_, rfl, ownK_empty encClockMark_len (by omega) w2 _ hb3.size, hb3.alloc hb3.size _⟩
  | true =>
  have C2 := Lib.hid (fun w' (q : RowKit.Below w.heap.size w w') => implGoodTk ys v2 w' B (h2.below (q.mono hB)) (Nat.le_trans hB q.size) true hg2)
  have HK2 := Lib.hid (goodTk_yes hg2)
  obtain ⟨e1, e2⟩ := okMrg_of hg hg2
  rw [e1, e2]
  clear hg hg2 e1 e2
  have hx2 := HK.out.1.1
  have hx10 := HK.out.1.2
  have hy2 := HK2.out.1.1
  have hy10 : (ys.length : Int) ≤ 10 := by have := HK2.out.1.2; omega
  have HSX := Lib.hid (lst_src h (by omega))
  obtain ⟨bx, ox, cx, rfl, -, -, hbx, hcx, -⟩ := lst_parts h hB (by omega)
  obtain ⟨bY, oy, cy, rfl, -, -, hby, hcy, -⟩ := lst_parts h2 hB (by omega)
  have HCX := Lib.hid hcx
  have HCY := Lib.hid hcy
  clear hcx hcy h h2
  obtain ⟨ti, hi, hz0, hz1, hz2⟩ := info_parts info_ClockMark
  have HP := Lib.hid (mergeR_perm xs ys xs)
  have HA := Lib.hid (mergeR_ascS xs ys xs (ascS_of HK.out.2.2))
  have HE : Hid (mergeR xs xs ys = mergeTk xs ys) := Lib.hid rfl
  rw [HE.out] at HP HA
  clear HE
  generalize mergeTk xs ys = T at *
  generalize hu : goodTk T = u at *
  generalize hR : (if u = true then T else []) = R at *
  have HU := Lib.hid hu
  have HR := Lib.hid hR
  clear hu hR
  go_enter Try.func69, Try.ntmps69
  go_wp2_with fail
  refine C.out.mono ?_
  rintro e w1 ⟨rfl, hb⟩
  go_wp2_with fail
  refine (C2.out _ hb).mono ?_
  rintro e w2 ⟨rfl, hb2⟩
  have hb3 := hb.trans (hb2.mono hb.size)
  have hr0 : (w2.alloc (.cells #[] 50)).ownsRow w.heap.size 50 2 (.slice (some ⟨w2.heap.size, 0, none⟩) 0 0) 0 [] := rowK_empty w2 _ _ hb3.size
  have hb4 := hb3.alloc hb3.size (.cells #[] 50)
  clear hb hb2 hb3 C C2
  go_wp2
  go_loopw [6, 21] (fun o i wr => ∃ (k : Nat) (v : Value), k ≤ ys.length ∧ i = .int .i64 k ∧ o = v ∧ wr.ownsRow w.heap.size 50 2 v (newM xs (ys.take k)).length ((newM xs (ys.take k)).flatMap encClockMark) ∧ (∃ g c, v = .slice (some ⟨g, 0, none⟩) (newM xs (ys.take k)).length c) ∧ RowKit.Below w.heap.size w wr)
    (fun _ i _ => ys.length - (intOf i).toNat)
  case atStart => exact ⟨0, _, Nat.zero_le _, rfl, rfl, hr0, ⟨_, _, rfl⟩, hb4⟩
  case round =>
    obtain ⟨k, _, hk, rfl, rfl, hrow, ⟨g, c, rfl⟩, hbl⟩ := hrel
    clear hr0 hb4
    have hsz := hbl.size
    by_cases hlt : k < ys.length
    case neg =>
      obtain rfl : k = ys.length := by omega
      rw [List.take_length] at hrow ⊢
      have hnl := newM_len xs ys
      have CO := (implOf (.slice (some ⟨bx, ox, none⟩) xs.length cx) (.slice (some ⟨g, 0, none⟩) (newM xs ys).length c) xs (newM xs ys) T wr (HSX.out.below hbl) ⟨_, c, rfl, flat_len encClockMark_len _, hrow.cells rfl, oneCM _⟩ (by omega) (by omega) (by omega) HP.out HA.out u HU.out)
      rw [HR.out] at CO
      have CO := Lib.hid CO
      clear hrow
      generalize (newM xs ys).length = nl at *
      go_wp2_with fail
      refine CO.out.mono ?_
      rintro e w5 ⟨v5, rfl, ho, hb5⟩
      have C5 := hbl.trans (hb5.mono hsz)
      have HO := Lib.hid (ho.mono (L' := w.heap.size) hsz (Nat.le_refl _))
      obtain ⟨ao5, cap5, rfl⟩ := ho.form
      clear ho
      go_wp2
      go_ret2
      exact ⟨_, rfl, HO.out, C5⟩
    obtain ⟨m, hm⟩ := get_of_lt hlt
    have c0 : wr.cell? ⟨bY, oy + k * 2, none⟩ = some (.int .i64 m.pShown) := cellOf hbl (by omega) (HCY.out k m hm 0 _ rfl)
    have c1 : wr.cell? ⟨bY, oy + k * 2 + 1, none⟩ = some (.int .i64 m.pTrue) := cellOf hbl (by omega) (HCY.out k m hm 1 _ rfl)
    have mp0 : (0 : Int) ≤ (k : Int) := by omega
    have mp1 : (k : Int) < (ys.length : Int) := by omega
    have N1 := (Below.refl wr.heap.size wr).alloc (Nat.le_refl _) (.cells #[.int .i64 m.pShown, .int .i64 m.pTrue] 50)
    have bz := Bx.new wr [.int .i64 m.pShown, .int .i64 m.pTrue] 50
    obtain ⟨W1, hW1⟩ : ∃ W1, wr.alloc (.cells #[.int .i64 m.pShown, .int .i64 m.pTrue] 50) = W1 := ⟨_, rfl⟩
    have hrow1 := hrow.alloc (.cells #[.int .i64 m.pShown, .int .i64 m.pTrue] 50)
    rw [hW1] at N1 bz hrow1
    have hb1 : RowKit.Below w.heap.size w W1 := hbl.trans (N1.mono hsz)
    have CH := Lib.hid (implHas (cap := cx) m W1 rfl (by omega) (fun k x hx j c hj => cellOf hb1 (by omega) (HCX.out k x hx j c hj)))
    have Q0 := bz.2 0 _ rfl
    have Q1 := bz.2 1 _ rfl
    have HNT := Lib.hid (newM_take (a := xs) hm)
    have hnl : (newM xs (ys.take k)).length ≤ k := by have := newM_len xs (ys.take k); rw [List.length_take] at this; omega
    clear hm hrow
    cases hq : hasM xs m with
    | true =>
      rw [hq] at CH HNT
      rw [if_pos rfl] at HNT
      clear hq
      go_wp2_with fail
      refine CH.out.mono ?_
      rintro e w5 ⟨rfl, hb5⟩
      have C5 := hb1.trans (hb5.mono hb1.size)
      have hr5 := row_below hrow1 hb5
      clear hW1 Q0 Q1 bz hrow1 c0 c1
      go_wp2
      go_roundw
      case rel => exact ⟨k + 1, _, by omega, by go_num, rfl, by rw [HNT.out]; exact hr5, ⟨g, c, by rw [HNT.out]⟩, C5⟩
      case measure => simp [intOf]; omega
    | false =>
      rw [hq] at CH HNT
      rw [if_neg (by simp)] at HNT
      clear hq
      go_wp2_with fail
      refine CH.out.mono ?_
      rintro e w5 ⟨rfl, hb5⟩
      have C5 := hb1.trans (hb5.mono hb1.size)
      have hr5 := row_below hrow1 hb5
      have b5 := bz.below hb5
      have Z0 := b5.2 0 _ rfl
      have Z1 := b5.2 1 _ rfl
      have hz5 := C5.size
      clear hW1 Q0 Q1 bz hrow1 c0 c1 hb5 b5
      have HNT2 : Hid ((newM xs (ys.take (k + 1))).length = (newM xs (ys.take k)).length + 1 ∧ (newM xs (ys.take (k + 1))).flatMap encClockMark = (newM xs (ys.take k)).flatMap encClockMark ++ encClockMark m) := Lib.hid (by rw [HNT.out]; exact ⟨by simp, by simp [List.flatMap_append]⟩)
      generalize hN : (newM xs (ys.take k)).length = nl at *
      generalize (newM xs (ys.take k)).flatMap encClockMark = fl at *
      clear hN HNT
      have SB := Lib.hid (srcK_box (Bx.new w5 (encClockMark m) 50) (fun u hu => oneCM [m] u (by simpa using hu)))
      go_wp2_with (at_builtin; refine wpList_append_srcK _ rfl _ _ 45 rfl w.heap.size 50 ti _ 2 16 Try.underlying45 hi hz0 hz1 hz2 rfl (by decide) _ nl fl rfl (hr5.alloc _) _ 1 (encClockMark m) rfl SB.out (by unfold maxLen; omega) (by omega) (by first | omega | (simp; done) | (simp; omega)) ?_; intro v6 w6 hr6 hg6 _)
      have hb6 : RowKit.Below w.heap.size w w6 := (C5.alloc hz5 (.cells #[.int .i64 m.pShown, .int .i64 m.pTrue] 50)).grown hg6 (by simp; omega) (fun g e => (hr5.lt g e).1)
      obtain ⟨g6, cap6, rfl, -⟩ := row_some hr6 (by omega)
      clear hg6 hr5 Z0 Z1
      go_wp2
      go_roundw
      case rel => exact ⟨k + 1, _, by omega, by go_num, rfl, by rw [HNT2.out.1, HNT2.out.2]; exact hr6, ⟨g6, cap6, by rw [HNT2.out.1]⟩, hb6⟩
      case measure => simp [intOf]; omega
end Go.Proofs.Ytklilfbokpljkac
