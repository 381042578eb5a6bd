/- Calibrating anew. -/
import Derived.Test.YtjiaejempfhheaaStaL
namespace Go.Proofs.Ytjiaejempfhheaa
open Go.ChangeShapes Go.WideShapes Go.ChangeAt Go.RowKit Go.ChangeMaps Go.Sort
set_option linter.unusedSimpArgs false
set_option linter.unusedVariables false

def upd (s : GStation) (g u : Int) : GStation := ⟨s.pId, s.pName, s.pX, s.pY, g, s.pLow, s.pHigh, u⟩
def isRec (xs : List GStation) (id g u : Int) (ys : List GStation) : Prop := goodL xs = true ∧ ∃ j s, xs[j]? = some s ∧ s.pId = id ∧ s.pUntil ≤ u ∧ goodL ys = true ∧ ys = xs.set j (upd s g u)
noncomputable def okRec (xs : List GStation) (id g u : Int) : Bool := @decide (∃ ys, isRec xs id g u ys) (Classical.propDecidable _)
noncomputable def resRec (xs : List GStation) (id g u : Int) : List GStation := @dite _ (∃ ys, isRec xs id g u ys) (Classical.propDecidable _) (fun h => Classical.choose h) (fun _ => [])
theorem idUniq {xs : List GStation} (h : goodL xs = true) {i j : Nat} {s t : GStation} (hi : xs[i]? = some s) (hj : xs[j]? = some t) (he : s.pId = t.pId) : i = j := by
  have hu := (goodL_yes h).2
  have hi' := (List.getElem?_eq_some_iff.1 hi).1
  have hj' := (List.getElem?_eq_some_iff.1 hj).1
  rcases Nat.lt_trichotomy i j with hlt | e | hlt
  · have := ((hu j t hj hj').2 i s hi hlt).1
    omega
  · exact e
  · have := ((hu i s hi hi').2 j t hj hlt).1
    omega
theorem rec_uniq {xs ys zs : List GStation} {id g u : Int} (h : isRec xs id g u ys) (k : isRec xs id g u zs) : ys = zs := by
  obtain ⟨hg, j, s, hj, h1, _, _, rfl⟩ := h
  obtain ⟨_, i, t, hi, h2, _, _, rfl⟩ := k
  have e := idUniq hg hj hi (h1.trans h2.symm)
  subst e
  rw [hj] at hi
  cases hi
  rfl
theorem rec_yes {xs ys : List GStation} {id g u : Int} (h : isRec xs id g u ys) : okRec xs id g u = true ∧ resRec xs id g u = ys := by
  have hx : ∃ ys, isRec xs id g u ys := ⟨ys, h⟩
  refine ⟨@decide_eq_true _ (Classical.propDecidable _) hx, ?_⟩
  unfold resRec
  rw [dif_pos hx]
  exact rec_uniq (Classical.choose_spec hx) h
theorem rec_no {xs : List GStation} {id g u : Int} (h : ∀ ys, ¬ isRec xs id g u ys) : okRec xs id g u = false ∧ resRec xs id g u = [] := by
  have hx : ¬ ∃ ys, isRec xs id g u ys := fun ⟨ys, hy⟩ => h ys hy
  refine ⟨@decide_eq_false _ (Classical.propDecidable _) hx, ?_⟩
  unfold resRec
  rw [dif_neg hx]
theorem rec_bad {xs : List GStation} {id g u : Int} (h : ¬ goodL xs = true) : okRec xs id g u = false ∧ resRec xs id g u = [] := rec_no fun _ hy => h hy.1
def noRec (xs : List GStation) (id g u : Int) (k : Nat) : Prop := ∀ j s, xs[j]? = some s → j < k → ¬ (s.pId = id ∧ s.pUntil ≤ u ∧ goodL (xs.set j (upd s g u)) = true)
theorem noRec_zero (xs : List GStation) (id g u : Int) : noRec xs id g u 0 := fun _ _ _ h => by omega
theorem noRec_succ {xs : List GStation} {id g u : Int} {k : Nat} {s : GStation} (h : noRec xs id g u k) (hs : xs[k]? = some s) (hn : ¬ (s.pId = id ∧ s.pUntil ≤ u ∧ goodL (xs.set k (upd s g u)) = true)) : noRec xs id g u (k + 1) := fun j t ht hj => by
  by_cases e : j = k
  · subst e; rw [hs] at ht; cases ht; exact hn
  · exact h j t ht (by omega)
theorem noRec_all {xs : List GStation} {id g u : Int} (h : noRec xs id g u xs.length) : okRec xs id g u = false ∧ resRec xs id g u = [] := rec_no fun ys ⟨_, j, s, hj, h1, h2, h3, e⟩ =>
  h j s hj (List.getElem?_eq_some_iff.1 hj).1 ⟨h1, h2, by rw [← e]; exact h3⟩
theorem rec_one {xs : List GStation} {id g u : Int} (hg : goodL xs = true) {k : Nat} {s : GStation} (hs : xs[k]? = some s) (hi : s.pId = id) (hn : ¬ (s.pUntil ≤ u ∧ goodL (xs.set k (upd s g u)) = true)) : okRec xs id g u = false ∧ resRec xs id g u = [] := rec_no fun ys ⟨_, j, t, hj, h1, h2, h3, e⟩ => by
  have ej := idUniq hg hs hj (hi.trans h1.symm)
  subst ej
  rw [hs] at hj
  cases hj
  exact hn ⟨h2, by rw [← e]; exact h3⟩
theorem rec_none {xs : List GStation} {id g u : Int} (hn : ∀ s ∈ xs, s.pId ≠ id) : okRec xs id g u = false ∧ resRec xs id g u = [] := rec_no fun ys ⟨_, j, t, hj, h1, _⟩ => hn t (List.mem_of_getElem? hj) h1
theorem szs_set {xs : List GStation} {k : Nat} {s : GStation} (hs : xs[k]? = some s) (g u : Int) : szsStation (xs.set k (upd s g u)) = szsStation xs := by
  unfold szsStation
  rw [List.map_set]
  have : (xs.map fun s => 1 + sz1Station s).set k (1 + sz1Station (upd s g u)) = xs.map fun s => 1 + sz1Station s := by
    apply List.ext_getElem?
    intro i
    by_cases e : k = i
    · subst e
      have hlt := (List.getElem?_eq_some_iff.1 hs).1
      rw [List.getElem?_set_self (by simpa using hlt)]
      simp [hs]
      rfl
    · rw [List.getElem?_set_ne e]
  rw [this]
theorem resRec_len (xs : List GStation) (id g u : Int) (h : szsStation xs ≤ 1048576) : szsStation (resRec xs id g u) ≤ 1048576 := by
  by_cases hx : ∃ ys, isRec xs id g u ys
  · obtain ⟨ys, hy⟩ := hx
    rw [(rec_yes hy).2]
    obtain ⟨_, j, s, hj, _, _, _, rfl⟩ := hy
    rw [szs_set hj]; exact h
  · rw [(rec_no fun ys hy => hx ⟨ys, hy⟩).2]
    simp [szsStation]
theorem wf_set {xs : List GStation} (hw : ∀ s ∈ xs, wfStation s) {k : Nat} {s : GStation} (hs : xs[k]? = some s) {g u : Int} (hg : I64 g) (hu : I64 u) : ∀ t ∈ xs.set k (upd s g u), wfStation t := fun t ht => by
  rcases List.mem_or_eq_of_mem_set ht with h | rfl
  · exact hw t h
  · obtain ⟨a, b, c, d, _, e, f, _⟩ := hw s (List.mem_of_getElem? hs)
    exact ⟨a, b, c, d, hg, e, f, hu⟩

set_option maxHeartbeats 400000 in
theorem cloRec (s : GStation) (id : Int) (v : Bool) (bf : Nat) (w : World) (hc : w.cell? ⟨bf, 0, none⟩ = some (.int .i64 id)) (hv : (s.pId == id) = v) :
    Calls Try.prog 90 #[.agg #[.int .i64 s.pId, .string s.pName, .int .i64 s.pX, .int .i64 s.pY, .int .i64 s.pGain, .int .i64 s.pLow, .int .i64 s.pHigh, .int .i64 s.pUntil], .pointer (some ⟨bf, 0, none⟩)] w fun e w' => e = .returned (.bool v) ∧ Below w.heap.size w w' := by
  have hlt : bf < w.heap.size := cell_of_lt hc
  have HV := Lib.hid hv
  clear hv
  go_enter Try.func90, Try.ntmps90
  go_wp2
  go_ret
  exact ⟨ret_bool HV.out, (Below.refl _ _).alloc (Nat.le_refl _) _⟩
/-- The first place with this Id, or -1. -/
def idxP (xs : List GStation) (id r : Int) : Prop := (r = -1 ∧ ∀ s ∈ xs, s.pId ≠ id) ∨ ∃ (k : Nat) (s : GStation), r = k ∧ xs[k]? = some s ∧ s.pId = id
set_option maxRecDepth 100000 in
set_option maxHeartbeats 1000000 in
theorem idxRec (xs : List GStation) (v : Value) (id : Int) (bf : Nat) (w : World) (B : Nat) (h : StationL w B v xs) (hB : B ≤ w.heap.size) (hlen : xs.length ≤ 10) (hbf : w.cell? ⟨bf, 0, none⟩ = some (.int .i64 id)) :
    Calls Try.prog 89 #[v, .func (.func 90) #[] #[.pointer (some ⟨bf, 0, none⟩)]] w fun e w' => ∃ r : Int, e = .returned (.int .i64 r) ∧ Hid (idxP xs id r) ∧ Below w.heap.size w w' := by
  obtain ⟨ao, cap, rfl, hcap, hmax, hnn, hc⟩ := h
  unfold maxLen at hmax
  have hblt : bf < w.heap.size := cell_of_lt hbf
  have HC := Lib.hid hc
  clear hc hnn
  go_enter Try.func89, Try.ntmps89
  go_wp2
  go_loopw [8] (fun i wr => ∃ (k : Nat), k ≤ xs.length ∧ i = .int .i64 k ∧ Hid (∀ j s, xs[j]? = some s → j < k → s.pId ≠ id) ∧ Below w.heap.size w wr)
    (fun i _ => xs.length - (intOf i).toNat)
  case atStart => exact ⟨0, Nat.zero_le _, rfl, Lib.hid (fun _ _ _ h => by omega), Below.refl _ _⟩
  case round =>
    obtain ⟨k, hk, rfl, HN, hbl⟩ := hrel
    have hsz := hbl.size
    by_cases hlt : k < xs.length
    case neg =>
      obtain rfl : k = xs.length := by omega
      have HR : Hid (idxP xs id (-1)) := Lib.hid (Or.inl ⟨rfl, fun s hs => by
        obtain ⟨j, hj⟩ := List.mem_iff_getElem?.1 hs
        exact HN.out j s hj (List.getElem?_eq_some_iff.1 hj).1⟩)
      go_wp2
      go_ret
      exact ⟨_, rfl, HR, hbl⟩
    obtain ⟨s, hs⟩ := get_of_lt hlt
    obtain ⟨b, off, rfl, hb, hcell⟩ := HC.out k s hs
    have c0 : wr.cell? ⟨b, off + k * 8, none⟩ = some (.int .i64 s.pId) := cellOf hbl (by omega) (hcell 0 _ rfl)
    have c1 : wr.cell? ⟨b, off + k * 8 + 1, none⟩ = some (.string s.pName) := cellOf hbl (by omega) (hcell 1 _ rfl)
    have c2 : wr.cell? ⟨b, off + k * 8 + 2, none⟩ = some (.int .i64 s.pX) := cellOf hbl (by omega) (hcell 2 _ rfl)
    have c3 : wr.cell? ⟨b, off + k * 8 + 3, none⟩ = some (.int .i64 s.pY) := cellOf hbl (by omega) (hcell 3 _ rfl)
    have c4 : wr.cell? ⟨b, off + k * 8 + 4, none⟩ = some (.int .i64 s.pGain) := cellOf hbl (by omega) (hcell 4 _ rfl)
    have c5 : wr.cell? ⟨b, off + k * 8 + 5, none⟩ = some (.int .i64 s.pLow) := cellOf hbl (by omega) (hcell 5 _ rfl)
    have c6 : wr.cell? ⟨b, off + k * 8 + 6, none⟩ = some (.int .i64 s.pHigh) := cellOf hbl (by omega) (hcell 6 _ rfl)
    have c7 : wr.cell? ⟨b, off + k * 8 + 7, none⟩ = some (.int .i64 s.pUntil) := cellOf hbl (by omega) (hcell 7 _ rfl)
    have hf1 : wr.cell? ⟨bf, 0, none⟩ = some (.int .i64 id) := cellOf hbl hblt hbf
    have HS := Lib.hid hs
    clear hs hcell
    by_cases hid : s.pId = id
    · have C := Lib.hid (cloRec s id true bf wr hf1 (by simp [hid]))
      have HR : Hid (idxP xs id k) := Lib.hid (Or.inr ⟨k, s, rfl, HS.out, hid⟩)
      clear hid hf1
      go_wp2_with fail
      refine C.out.mono ?_
      rintro e w2 ⟨rfl, hb2⟩
      go_wp2
      go_ret
      exact ⟨_, rfl, HR, hbl.trans (hb2.mono hsz)⟩
    · have C := Lib.hid (cloRec s id false bf wr hf1 (by simpa using hid))
      have HN2 : Hid (∀ j s, xs[j]? = some s → j < k + 1 → s.pId ≠ id) := Lib.hid (fun j t ht hj => by
        by_cases e : j = k
        · subst e; have := HS.out; rw [ht] at this; cases this; exact hid
        · exact HN.out j t ht (by omega))
      clear hid hf1
      go_wp2_with fail
      refine C.out.mono ?_
      rintro e w2 ⟨rfl, hb2⟩
      go_wp2
      go_roundw
      case rel => exact ⟨k + 1, by omega, by go_num, HN2, hbl.trans (hb2.mono hsz)⟩
      case measure => simp [intOf]; omega


set_option maxRecDepth 100000 in
set_option maxHeartbeats 2000000 in
theorem implRec (xs : List GStation) (v : Value) (id g u : Int) (w : World) (B : Nat) (h : StationL w B v xs) (hB : B ≤ w.heap.size) (hn : szsStation xs ≤ 1048576) (hw : ∀ s ∈ xs, wfStation s) (_ : I64 id) (hig : I64 g) (hiu : I64 u) :
    Calls Try.prog 32 #[v, .int .i64 id, .int .i64 g, .int .i64 u] w fun e w' => ∃ v', e = .returned (.tuple #[v', .bool (okRec xs id g u)]) ∧ StationO w' w.heap.size w'.heap.size v' (resRec xs id g u) ∧ Below w.heap.size w w' := by
  have N1 := (Below.refl w.heap.size w).alloc (Nat.le_refl _) (.cells #[.int .i64 id] 3)
  have bx := Bx.new w [.int .i64 id] 3
  have h1 := h.below (N1.mono hB)
  by_cases hg : goodL xs = true
  case neg =>
    have C := Lib.hid (implAreV xs v _ B h1 (Nat.le_trans hB N1.size) hn hw false (bool_f hg))
    obtain ⟨e1, e2⟩ := rec_bad (id := id) (g := g) (u := u) hg
    rw [e1, e2]
    clear hg e1 e2
    obtain ⟨ao, cap, rfl, -⟩ := h
    go_enter Try.func32, Try.ntmps32
    go_wp2_with fail
    refine C.out.mono ?_
    rintro e w1 ⟨rfl, hb⟩
    have C1 := N1.trans (hb.mono N1.size)
    go_wp2
    go_ret2
    exact ⟨_, rfl, ownK_empty encStation_len (by omega) _ 36 C1.size, C1.alloc C1.size _⟩
  have C := Lib.hid (implAreV xs v _ B h1 (Nat.le_trans hB N1.size) hn hw true hg)
  have hlen := goodL_len hg
  have HGL := Lib.hid hg
  have HW := Lib.hid hw
  clear hg hw h1
  generalize hok : okRec xs id g u = ok
  generalize hres : resRec xs id g u = res
  have HK := Lib.hid hok
  have HR := Lib.hid hres
  clear hok hres
  have HL := Lib.hid h
  obtain ⟨ao, cap, rfl, hcap, hmax, hnn, hc⟩ := h
  unfold maxLen at hmax
  have HC := Lib.hid hc
  clear hc hnn
  go_enter Try.func32, Try.ntmps32
  go_wp2_with fail
  refine C.out.mono ?_
  rintro e w1 ⟨rfl, hb⟩
  have C1 := N1.trans (hb.mono N1.size)
  have q0 := (bx.below hb).2 0 _ rfl
  clear hb bx N1 C
  go_wp2_with fail
  refine (idxRec xs _ id w.heap.size _ B (HL.out.below (C1.mono hB)) (Nat.le_trans hB C1.size) hlen q0).mono ?_
  rintro e w2 ⟨r, rfl, HI, hb2⟩
  have C2 := C1.trans (hb2.mono C1.size)
  clear C1 hb2 q0
  rcases HI.out with ⟨rfl, hnone⟩ | ⟨k, s, rfl, hs, hid⟩
  · obtain ⟨e1, e2⟩ := rec_none (g := g) (u := u) hnone
    have E1 := HK.out.symm.trans e1
    have E2 := HR.out.symm.trans e2
    subst E1 E2
    clear hnone e1 e2
    go_wp2
    go_ret2
    exact ⟨_, rfl, ownK_empty encStation_len (by omega) _ 36 C2.size, C2.alloc C2.size _⟩
  · have hlt : k < xs.length := (List.getElem?_eq_some_iff.1 hs).1
    obtain ⟨b, off, rfl, hb, hcell⟩ := HC.out k s hs
    have c7 : w2.cell? ⟨b, off + k * 8 + 7, none⟩ = some (.int .i64 s.pUntil) := cellOf C2 (by omega) (hcell 7 _ rfl)
    have HS := Lib.hid hs
    have HD := Lib.hid hid
    clear hs hid hcell HI
    by_cases hu : s.pUntil ≤ u
    case neg =>
      obtain ⟨e1, e2⟩ := rec_one (g := g) (u := u) HGL.out HS.out HD.out (fun h => hu h.1)
      have E1 := HK.out.symm.trans e1
      have E2 := HR.out.symm.trans e2
      subst E1 E2
      clear e1 e2
      go_wp2
      go_ret2
      exact ⟨_, rfl, ownK_empty encStation_len (by omega) _ 36 C2.size, C2.alloc C2.size _⟩
    go_wp2_with fail
    refine (cloneStation xs _ _ B (HL.out.below (C2.mono hB)) (Nat.le_trans hB C2.size) (by omega)).mono ?_
    rintro e w3 ⟨v3, rfl, ho, hb3⟩
    have C3 := C2.trans (hb3.mono C2.size)
    have z2 := C2.size
    obtain ⟨ao3, cap3, e3, _, _, _, h3⟩ := _root_.id ho
    obtain ⟨b3, off3, e4, hL3, hB3, hz3, hc3, hf3⟩ := h3 k s HS.out
    subst e4
    subst e3
    have o4 : w3.cell? ⟨b3, off3 + k * 8 + 4, none⟩ = some (.int .i64 s.pGain) := hc3 4 _ rfl
    have o7 : w3.cell? ⟨b3, off3 + k * 8 + 7, none⟩ = some (.int .i64 s.pUntil) := hc3 7 _ rfl
    have r1 := OwnK.set encStation_len ho (m := 4) rfl HS.out (by omega) (y := ⟨s.pId, s.pName, s.pX, s.pY, g, s.pLow, s.pHigh, s.pUntil⟩) (u := .int .i64 g) rfl
    have r2 := OwnK.set encStation_len r1 (m := 7) rfl (get_set_self HS.out) (by omega) (y := upd s g u) (u := .int .i64 u) rfl
    rw [List.set_set] at r2
    have U2 := (C3.setCell (p := ⟨b3, off3 + k * 8 + 4, none⟩) (by show w.heap.size ≤ b3; omega) (.int .i64 g)).setCell (p := ⟨b3, off3 + k * 8 + 7, none⟩) (by show w.heap.size ≤ b3; omega) (.int .i64 u)
    have R2 := Lib.hid r2
    have hz4 : w3.heap.size ≤ ((w3.setCell ⟨b3, off3 + k * 8 + 4, none⟩ (.int .i64 g)).setCell ⟨b3, off3 + k * 8 + 7, none⟩ (.int .i64 u)).heap.size := by simp [World.setCell]
    have hwy := wf_set HW.out HS.out hig hiu
    have hny : szsStation (xs.set k (upd s g u)) ≤ 1048576 := by rw [szs_set HS.out]; exact hn
    generalize hgy : goodL (xs.set k (upd s g u)) = gy
    have C4 := Lib.hid (implAreV (xs.set k (upd s g u)) _ _ _ r2.lst hz4 hny hwy gy hgy)
    have HGY := Lib.hid hgy
    clear hgy hwy hny r1 r2 ho h3 hc3
    cases gy with
    | false =>
      obtain ⟨e1, e2⟩ := rec_one (g := g) (u := u) HGL.out HS.out HD.out (fun h => by have := h.2; rw [HGY.out] at this; cases this)
      have E1 := HK.out.symm.trans e1
      have E2 := HR.out.symm.trans e2
      subst E1 E2
      clear e1 e2
      go_wp2_with fail
      refine C4.out.mono ?_
      rintro e w5 ⟨rfl, hb5⟩
      have C5 := U2.trans (hb5.mono U2.size)
      go_wp2
      go_ret2
      exact ⟨_, rfl, ownK_empty encStation_len (by omega) _ 36 C5.size, C5.alloc C5.size _⟩
    | true =>
      obtain ⟨e1, e2⟩ := rec_yes (ys := xs.set k (upd s g u)) (id := id) (g := g) (u := u) ⟨HGL.out, k, s, HS.out, HD.out, hu, HGY.out, rfl⟩
      have E1 := HK.out.symm.trans e1
      have E2 := HR.out.symm.trans e2
      subst E1 E2
      clear e1 e2
      go_wp2_with fail
      refine C4.out.mono ?_
      rintro e w5 ⟨rfl, hb5⟩
      have C5 := U2.trans (hb5.mono U2.size)
      have z5 := hb5.size
      go_wp2
      go_ret2
      exact ⟨_, rfl, (R2.out.below (hb5.mono hz4)).mono (by omega) (by omega), C5⟩


set_option maxRecDepth 100000 in
set_option maxHeartbeats 4000000 in
theorem specRec (xs : List GStation) (v : Value) (id g u : Int) (w : World) (B : Nat) (h : StationL w B v xs) (hB : B ≤ w.heap.size) (hn : szsStation xs ≤ 1048576) (hw : ∀ s ∈ xs, wfStation s) (_ : I64 id) (hig : I64 g) (hiu : I64 u) :
    Calls Try.prog 33 #[v, .int .i64 id, .int .i64 g, .int .i64 u] w fun e w' => ∃ v', e = .returned (.tuple #[v', .bool (okRec xs id g u)]) ∧ StationO w' w.heap.size w'.heap.size v' (resRec xs id g u) ∧ Below w.heap.size w w' := by
  by_cases hg : goodL xs = true
  case neg =>
    have C := Lib.hid (specGoodV xs v _ B h hB hn hw false (bool_f hg))
    obtain ⟨e1, e2⟩ := rec_bad (id := id) (g := g) (u := u) hg
    rw [e1, e2]
    clear hg e1 e2
    obtain ⟨ao, cap, rfl, -⟩ := h
    go_enter Try.func33, Try.ntmps33
    go_wp2_with fail
    refine C.out.mono ?_
    rintro e w1 ⟨rfl, hb⟩
    go_wp2
    go_ret2
    exact ⟨_, rfl, ownK_empty encStation_len (by omega) _ 36 hb.size, hb.alloc hb.size _⟩
  have C := Lib.hid (specGoodV xs v _ B h hB hn hw true hg)
  have hlen := goodL_len hg
  have HGL := Lib.hid hg
  have HW := Lib.hid hw
  clear hg hw
  generalize hok : okRec xs id g u = ok
  generalize hres : resRec xs id g u = res
  have HK := Lib.hid hok
  have HR := Lib.hid hres
  clear hok hres
  have HL := Lib.hid h
  obtain ⟨ao, cap, rfl, hcap, hmax, hnn, hc⟩ := h
  unfold maxLen at hmax
  have HC := Lib.hid hc
  clear hc hnn
  obtain ⟨ti, hi, hz0, hz1, hz2⟩ := info_parts info_Station
  go_enter Try.func33, Try.ntmps33
  go_wp2_with fail
  refine C.out.mono ?_
  rintro e w1 ⟨rfl, hb1⟩
  clear C
  go_wp2
  go_loopw [10] (fun i wr => ∃ (k : Nat), k ≤ xs.length ∧ i = .int .i64 k ∧ Hid (noRec xs id g u k) ∧ Below w.heap.size w wr)
    (fun i _ => xs.length - (intOf i).toNat)
  case atStart => exact ⟨0, Nat.zero_le _, rfl, Lib.hid (noRec_zero xs id g u), hb1⟩
  case round =>
    obtain ⟨k, hk, rfl, HN, hbl⟩ := hrel
    have hsz := hbl.size
    by_cases hlt : k < xs.length
    case neg =>
      obtain rfl : k = xs.length := by omega
      obtain ⟨e1, e2⟩ := noRec_all HN.out
      have E1 := HK.out.symm.trans e1
      have E2 := HR.out.symm.trans e2
      subst E1 E2
      clear e1 e2
      go_wp2
      go_ret2
      exact ⟨_, rfl, ownK_empty encStation_len (by omega) _ 36 hbl.size, hbl.alloc hbl.size _⟩
    obtain ⟨s, hs⟩ := get_of_lt hlt
    obtain ⟨b, off, rfl, hb, hcell⟩ := HC.out k s hs
    have c0 : wr.cell? ⟨b, off + k * 8, none⟩ = some (.int .i64 s.pId) := cellOf hbl (by omega) (hcell 0 _ rfl)
    have c1 : wr.cell? ⟨b, off + k * 8 + 1, none⟩ = some (.string s.pName) := cellOf hbl (by omega) (hcell 1 _ rfl)
    have c2 : wr.cell? ⟨b, off + k * 8 + 2, none⟩ = some (.int .i64 s.pX) := cellOf hbl (by omega) (hcell 2 _ rfl)
    have c3 : wr.cell? ⟨b, off + k * 8 + 3, none⟩ = some (.int .i64 s.pY) := cellOf hbl (by omega) (hcell 3 _ rfl)
    have c4 : wr.cell? ⟨b, off + k * 8 + 4, none⟩ = some (.int .i64 s.pGain) := cellOf hbl (by omega) (hcell 4 _ rfl)
    have c5 : wr.cell? ⟨b, off + k * 8 + 5, none⟩ = some (.int .i64 s.pLow) := cellOf hbl (by omega) (hcell 5 _ rfl)
    have c6 : wr.cell? ⟨b, off + k * 8 + 6, none⟩ = some (.int .i64 s.pHigh) := cellOf hbl (by omega) (hcell 6 _ rfl)
    have c7 : wr.cell? ⟨b, off + k * 8 + 7, none⟩ = some (.int .i64 s.pUntil) := cellOf hbl (by omega) (hcell 7 _ rfl)
    have HS := Lib.hid hs
    clear hs hcell
    have N1 := (Below.refl wr.heap.size wr).alloc (Nat.le_refl _) (.cells #[.int .i64 s.pId, .string s.pName, .int .i64 s.pX, .int .i64 s.pY, .int .i64 s.pGain, .int .i64 s.pLow, .int .i64 s.pHigh, .int .i64 s.pUntil] 36)
    have bx := Bx.new wr [.int .i64 s.pId, .string s.pName, .int .i64 s.pX, .int .i64 s.pY, .int .i64 s.pGain, .int .i64 s.pLow, .int .i64 s.pHigh, .int .i64 s.pUntil] 36
    have C1 := hbl.trans (N1.mono hsz)
    by_cases hid : s.pId = id
    case neg =>
      have h1 : (s.pId == id) = false := by simpa using hid
      have HN2 := Lib.hid (noRec_succ HN.out HS.out (fun h => hid h.1))
      clear hid
      go_wp2
      go_roundw
      case rel => exact ⟨k + 1, by omega, by go_num, HN2, C1⟩
      case measure => simp [intOf]; omega
    have h1 : (s.pId == id) = true := by simpa using hid
    by_cases hu : s.pUntil ≤ u
    case neg =>
      have HN2 := Lib.hid (noRec_succ HN.out HS.out (fun h => hu h.2.1))
      clear hid
      go_wp2
      go_roundw
      case rel => exact ⟨k + 1, by omega, by go_num, HN2, C1⟩
      case measure => simp [intOf]; omega
    have HD := Lib.hid hid
    clear hid
    rcases HL.out.split encStation_len (by omega) with ⟨e1, -⟩ | ⟨a, cap', e1, -, -, hcc⟩
    · cases e1
    simp only [Value.slice.injEq, Option.some.injEq] at e1
    obtain ⟨rfl, -, rfl⟩ := e1
    have z1 : wr.heap.size + 1 ≤ (wr.alloc (.cells #[.int .i64 s.pId, .string s.pName, .int .i64 s.pX, .int .i64 s.pY, .int .i64 s.pGain, .int .i64 s.pLow, .int .i64 s.pHigh, .int .i64 s.pUntil] 36)).heap.size := by simp
    have HCC := Lib.hid (fun j q (hq : (xs.flatMap encStation)[j]? = some q) => (((C1.mono hB).alloc (by have := C1.size; omega) (.cells #[] 36)).cell (hcc j q hq).1).trans (hcc j q hq).2)
    have H1 := Lib.hid (oneStation xs)
    have HLen : Hid ((xs.flatMap encStation).length = xs.length * 8) := Lib.hid (flat_len encStation_len xs)
    have hrow : ((wr.alloc (.cells #[.int .i64 s.pId, .string s.pName, .int .i64 s.pX, .int .i64 s.pY, .int .i64 s.pGain, .int .i64 s.pLow, .int .i64 s.pHigh, .int .i64 s.pUntil] 36)).alloc (.cells #[] 36)).ownsRow (wr.heap.size + 1) 36 8 (.slice (some ⟨wr.heap.size + 1, 0, none⟩) 0 0) 0 [] := by
      have := rowK_empty (wr.alloc (.cells #[.int .i64 s.pId, .string s.pName, .int .i64 s.pX, .int .i64 s.pY, .int .i64 s.pGain, .int .i64 s.pLow, .int .i64 s.pHigh, .int .i64 s.pUntil] 36)) (base := wr.heap.size + 1) 36 8 z1
      rwa [World.size_alloc] at this
    clear hcc
    go_wp2_with (at_builtin
                 refine wpList_append_own _ rfl _ _ 24 rfl (wr.heap.size + 1) 36 ti (.agg #[.int .i64 0, .string .empty, .int .i64 0, .int .i64 0, .int .i64 0, .int .i64 0, .int .i64 0, .int .i64 0]) 8 72 Try.underlying24 hi hz0 hz1 hz2 rfl (by decide) _ 0 [] rfl hrow ⟨b, off, none⟩ xs.length _ (xs.flatMap encStation) rfl HLen.out HCC.out H1.out (by unfold maxLen; omega) (by omega) (by simp) ?_
                 intro v3 w3 hown hgr _
                 have ho3 : w3.ownsRow (wr.heap.size + 1) 36 8 v3 xs.length (xs.flatMap encStation) := by simpa using hown
                 have ho := OwnK.of_row encStation_len (by omega) ho3
                 have hb3 : Below (wr.alloc (.cells #[.int .i64 s.pId, .string s.pName, .int .i64 s.pX, .int .i64 s.pY, .int .i64 s.pGain, .int .i64 s.pLow, .int .i64 s.pHigh, .int .i64 s.pUntil] 36)).heap.size (wr.alloc (.cells #[.int .i64 s.pId, .string s.pName, .int .i64 s.pX, .int .i64 s.pY, .int .i64 s.pGain, .int .i64 s.pLow, .int .i64 s.pHigh, .int .i64 s.pUntil] 36)) w3 := below_appK hgr (by intro g e; cases e; simp)
                 have C3 := C1.trans (hb3.mono (by have := C1.size; exact this))
                 have bx3 := bx.below hb3
                 clear hown ho3 hgr hrow HCC H1 HLen
                 have z3 : wr.heap.size + 1 ≤ w3.heap.size := by have := hb3.size; simpa using this
                 obtain ⟨ao3, cap3, e3, _, _, _, h3⟩ := _root_.id ho
                 obtain ⟨b3, off3, e4, hL3, hB3, hz3, hc3, hf3⟩ := h3 k s HS.out
                 subst e4
                 subst e3
                 have o0 : w3.cell? ⟨b3, off3 + k * 8, none⟩ = some (.int .i64 s.pId) := hc3 0 _ rfl
                 have o1 : w3.cell? ⟨b3, off3 + k * 8 + 1, none⟩ = some (.string s.pName) := hc3 1 _ rfl
                 have o2 : w3.cell? ⟨b3, off3 + k * 8 + 2, none⟩ = some (.int .i64 s.pX) := hc3 2 _ rfl
                 have o3 : w3.cell? ⟨b3, off3 + k * 8 + 3, none⟩ = some (.int .i64 s.pY) := hc3 3 _ rfl
                 have o4 : w3.cell? ⟨b3, off3 + k * 8 + 4, none⟩ = some (.int .i64 s.pGain) := hc3 4 _ rfl
                 have o5 : w3.cell? ⟨b3, off3 + k * 8 + 5, none⟩ = some (.int .i64 s.pLow) := hc3 5 _ rfl
                 have o6 : w3.cell? ⟨b3, off3 + k * 8 + 6, none⟩ = some (.int .i64 s.pHigh) := hc3 6 _ rfl
                 have o7 : w3.cell? ⟨b3, off3 + k * 8 + 7, none⟩ = some (.int .i64 s.pUntil) := hc3 7 _ rfl
                 have q0 := bx3.2 0 _ rfl
                 have q1 := bx3.2 1 _ rfl
                 have q2 := bx3.2 2 _ rfl
                 have q3 := bx3.2 3 _ rfl
                 have q4 := bx3.2 4 _ rfl
                 have q5 := bx3.2 5 _ rfl
                 have q6 := bx3.2 6 _ rfl
                 have q7 := bx3.2 7 _ rfl
                 have hfb := fun o => bx3.1.2 o
                 have hne : ¬ b3 = wr.heap.size := by omega
                 have hne' : ¬ wr.heap.size = b3 := by omega
                 have r1 := ((ho.setLow (p := ⟨wr.heap.size, 4, none⟩) (by show wr.heap.size < wr.heap.size + 1; omega) (.int .i64 g)).setLow (p := ⟨wr.heap.size, 7, none⟩) (by show wr.heap.size < wr.heap.size + 1; omega) (.int .i64 u))
                 have r2 := r1.put encStation_len rfl HS.out (ad := off3 + k * 8) rfl (upd s g u)
                 have U2 := below_putCells ((C3.setCell (p := ⟨wr.heap.size, 4, none⟩) hsz (.int .i64 g)).setCell (p := ⟨wr.heap.size, 7, none⟩) hsz (.int .i64 u)) (b := b3) (by omega) (off3 + k * 8) (encStation (upd s g u)) 0
                 have hz4 := U2.size
                 have hzz : w3.heap.size ≤ (putCells ((w3.setCell ⟨wr.heap.size, 4, none⟩ (.int .i64 g)).setCell ⟨wr.heap.size, 7, none⟩ (.int .i64 u)) b3 (off3 + k * 8) (encStation (upd s g u)) 0).heap.size := by rw [putCells_size]; simp [World.setCell]
                 have R2 := Lib.hid r2
                 have hwy := wf_set HW.out HS.out hig hiu
                 have hny : szsStation (xs.set k (upd s g u)) ≤ 1048576 := by rw [szs_set HS.out]; exact hn
                 generalize hgy : goodL (xs.set k (upd s g u)) = gy
                 have C4 := Lib.hid (specGoodV (xs.set k (upd s g u)) _ _ _ r2.lst hzz hny hwy gy hgy)
                 have HGY := Lib.hid hgy
                 have UU := Lib.hid U2
                 clear hgy hwy hny r1 r2 ho h3 hc3 U2)
    cases gy with
    | false =>
      have HN2 := Lib.hid (noRec_succ HN.out HS.out (fun h => by have := h.2.2; rw [HGY.out] at this; cases this))
      refine C4.out.mono ?_
      rintro e w5 ⟨rfl, hb5⟩
      have C5 := UU.out.trans (hb5.mono hz4)
      go_wp2
      go_roundw
      case rel => exact ⟨k + 1, by omega, by go_num, HN2, C5⟩
      case measure => simp [intOf]; omega
    | true =>
      obtain ⟨e1, e2⟩ := rec_yes (ys := xs.set k (upd s g u)) (id := id) (g := g) (u := u) ⟨HGL.out, k, s, HS.out, HD.out, hu, HGY.out, rfl⟩
      have E1 := HK.out.symm.trans e1
      have E2 := HR.out.symm.trans e2
      subst E1 E2
      clear e1 e2
      refine C4.out.mono ?_
      rintro e w5 ⟨rfl, hb5⟩
      have C5 := UU.out.trans (hb5.mono hz4)
      have z5 := hb5.size
      go_wp2
      go_ret2
      exact ⟨_, rfl, (R2.out.below (hb5.mono hzz)).mono (by omega) (by omega), C5⟩
end Go.Proofs.Ytjiaejempfhheaa
