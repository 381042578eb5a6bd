/- Setting: what it reads as; the laws' helpers on it and on slices of it. -/
import Derived.Test.YtklilfbokpljkabFlat
import Derived.Handy
import Derived.Deep.Slices
import Derived.Deep.Fields
namespace Go.Proofs.Ytklilfbokpljkab
open Go.ChangeShapes Go.WideShapes Go.ChangeAt Go.RowKit Go.ChangeMaps
set_option linter.unusedSimpArgs false
set_option linter.unusedVariables false

structure GSetting where
  pShort : Int
  pLong : Int
  pOn : Int
  pOff : Int
def encSetting (s : GSetting) : List Value := [.int .i64 s.pShort, .int .i64 s.pLong, .int .i64 s.pOn, .int .i64 s.pOff]
theorem encSetting_len : ∀ s, (encSetting s).length = 4 := fun _ => rfl
def zeroSetting : GSetting := ⟨0, 0, 0, 0⟩
abbrev SettingL (w : World) (B : Nat) (v : Value) (xs : List GSetting) : Prop := LstK encSetting 4 w B v xs
abbrev SettingO (w : World) (L B : Nat) (v : Value) (xs : List GSetting) : Prop := OwnK encSetting 4 w L B v xs
def sz1Setting (s : GSetting) : Nat := 0
def szsSetting (xs : List GSetting) : Nat := (xs.map fun s => 1 + sz1Setting s).sum
theorem szsSetting_len (xs : List GSetting) : xs.length ≤ szsSetting xs := by
  unfold szsSetting
  induction xs with
  | nil => simp
  | cons a l ih => simp only [List.map_cons, List.sum_cons, List.length_cons]; omega
theorem szsSetting_mem {xs : List GSetting} {s : GSetting} (h : s ∈ xs) : sz1Setting s ≤ szsSetting xs := by
  unfold szsSetting
  induction xs with
  | nil => simp at h
  | cons a l ih =>
    simp only [List.map_cons, List.sum_cons]
    rcases List.mem_cons.1 h with rfl | h
    · omega
    · have := ih h; omega
theorem szsSetting_split (xs : List GSetting) : szsSetting xs = xs.length := by
  unfold szsSetting
  induction xs with
  | nil => simp
  | cons a l ih => rw [List.map_cons, List.sum_cons, List.length_cons, ih]; unfold sz1Setting; omega

/-- One of them by value. -/
def SettingV (v : Value) (s : GSetting) : Prop := v = .agg #[.int .i64 s.pShort, .int .i64 s.pLong, .int .i64 s.pOn, .int .i64 s.pOff]
set_option maxHeartbeats 800000 in
theorem toSetting_any (s : GSetting) (w : World) :
    Calls Try.prog 17 #[.agg #[.int .i64 s.pShort, .int .i64 s.pLong, .int .i64 s.pOn, .int .i64 s.pOff]] w fun e w' => e = .returned (.agg #[.int .i64 s.pShort, .int .i64 s.pLong, .int .i64 s.pOn, .int .i64 s.pOff]) ∧ Below w.heap.size w w' := by
  go_enter Try.func17, Try.ntmps17
  go_wp2
  refine bodyPost_ret (v := .agg #[.int .i64 s.pShort, .int .i64 s.pLong, .int .i64 s.pOn, .int .i64 s.pOff]) (by simp [results, Try.results17, go_sem]) rfl ⟨rfl, ?_⟩
  first
    | exact (((Below.refl _ w).alloc (Nat.le_refl _) _).alloc (by first | omega | (simp; done) | (simp; omega)) _).alloc (by first | omega | (simp; done) | (simp; omega)) _
    | (repeat (first | exact (((Below.refl _ w).alloc (Nat.le_refl _) _).alloc (by first | omega | (simp; done) | (simp; omega)) _).alloc (by first | omega | (simp; done) | (simp; omega)) _ | (refine Below.setCell ?_ (by first | omega | (simp; done) | (simp; omega)) _)))
theorem info_Setting : (Try.prog.info? 28).map (fun i => (i.zero, i.size, i.bytes)) = some (some (.agg #[.int .i64 0, .int .i64 0, .int .i64 0, .int .i64 0]), 4, 32) := by kernel_rfl
theorem oneSetting (xs : List GSetting) : ∀ u ∈ xs.flatMap encSetting, u.oneCell' = true := by
  intro u hu
  obtain ⟨x, _, hx⟩ := List.mem_flatMap.1 hu
  simp only [encSetting, List.mem_cons, List.not_mem_nil, or_false] at hx
  rcases hx with rfl | rfl | rfl | rfl <;> rfl
def wfSetting (s : GSetting) : Prop := I64 s.pShort ∧ I64 s.pLong ∧ I64 s.pOn ∧ I64 s.pOff
set_option maxRecDepth 100000 in
theorem cells_Setting {H : Type} {enc : TypeId × Value → H} {w : World} (n : Nat) (cs : List Value) (x : DataW H × List MemPlace) (h : DataW.trod enc Try.prog w 0 (fun _ => true) true n 24 cs = some x) : ∃ s, cs = encSetting s ∧ wfSetting s := by
  obtain ⟨ys, m, _, _, hlen, hyl, hf⟩ := DataW.trod_struct Try.underlying24 h
  have hlen : cs.length = 4 := hlen.trans (by kernel_rfl)
  obtain ⟨c0, y0, e0, t0⟩ := field_cell (by kernel_rfl) hlen hyl hf 0 _ rfl
  obtain ⟨a0, g0, _, b0⟩ := DataW.trod_int Try.underlying3 t0
  simp only [List.cons.injEq, and_true] at g0
  subst g0
  obtain ⟨c1, y1, e1, t1⟩ := field_cell (by kernel_rfl) hlen hyl hf 1 _ rfl
  obtain ⟨a1, g1, _, b1⟩ := DataW.trod_int Try.underlying3 t1
  simp only [List.cons.injEq, and_true] at g1
  subst g1
  obtain ⟨c2, y2, e2, t2⟩ := field_cell (by kernel_rfl) hlen hyl hf 2 _ rfl
  obtain ⟨a2, g2, _, b2⟩ := DataW.trod_int Try.underlying3 t2
  simp only [List.cons.injEq, and_true] at g2
  subst g2
  obtain ⟨c3, y3, e3, t3⟩ := field_cell (by kernel_rfl) hlen hyl hf 3 _ rfl
  obtain ⟨a3, g3, _, b3⟩ := DataW.trod_int Try.underlying3 t3
  simp only [List.cons.injEq, and_true] at g3
  subst g3
  refine ⟨⟨a0, a1, a2, a3⟩, ?_, bounds_i64 b0, bounds_i64 b1, bounds_i64 b2, bounds_i64 b3⟩
  apply List.ext_getElem?
  intro i
  match i with
  | 0 => exact e0
  | 1 => exact e1
  | 2 => exact e2
  | 3 => exact e3
  | i + 4 => rw [List.getElem?_eq_none (by omega), List.getElem?_eq_none (by rw [encSetting_len]; omega)]
/-- One of them, by value. -/
def SettingVL (_ : World) (_ : Nat) (v : Value) (s : GSetting) : Prop := v = .agg #[.int .i64 s.pShort, .int .i64 s.pLong, .int .i64 s.pOn, .int .i64 s.pOff]
def SettingVO (_ : World) (_ _ : Nat) (v : Value) (s : GSetting) : Prop := v = .agg #[.int .i64 s.pShort, .int .i64 s.pLong, .int .i64 s.pOn, .int .i64 s.pOff]
theorem SettingVO.lst {w : World} {L B : Nat} {v : Value} {s : GSetting} (h : SettingVO w L B v s) : SettingVL w B v s := h
theorem SettingVL.below {w w' : World} {B : Nat} {v : Value} {s : GSetting} (h : SettingVL w B v s) (_ : Below B w w') : SettingVL w' B v s := h
theorem SettingVL.mono {w : World} {B B' : Nat} {v : Value} {s : GSetting} (h : SettingVL w B v s) (_ : B ≤ B') : SettingVL w B' v s := h
theorem SettingVO.below {w w' : World} {L B : Nat} {v : Value} {s : GSetting} (h : SettingVO w L B v s) (_ : Below B w w') : SettingVO w' L B v s := h
theorem SettingVO.mono {w : World} {L B L' B' : Nat} {v : Value} {s : GSetting} (h : SettingVO w L B v s) (_ : L' ≤ L) (_ : B ≤ B') : SettingVO w L' B' v s := h
theorem SettingVO.high {w w' : World} {L B L' U' : Nat} {v : Value} {s : GSetting} (h : SettingVO w L B v s) (_ : Upd L' U' w w') (_ : U' ≤ L) : SettingVO w' L B v s := h
theorem SettingVL.form {w : World} {B : Nat} {v : Value} {s : GSetting} (h : SettingVL w B v s) : v = .agg #[.int .i64 s.pShort, .int .i64 s.pLong, .int .i64 s.pOn, .int .i64 s.pOff] := h
theorem SettingVO.form {w : World} {L B : Nat} {v : Value} {s : GSetting} (h : SettingVO w L B v s) : v = .agg #[.int .i64 s.pShort, .int .i64 s.pLong, .int .i64 s.pOn, .int .i64 s.pOff] := h
set_option maxRecDepth 100000 in
theorem open_Setting {H : Type} {enc : TypeId × Value → H} {w : World} {base : Nat} {v : Value} {d : DataW H} {ps : List MemPlace}
    (hval : Value.okWide Try.prog w .any base 24 v) (hd : DataW.Trod enc Try.prog w 0 (fun _ => true) true 24 v d ps) : ∃ s : GSetting, SettingVL w w.heap.size v s ∧ wfSetting s := by
  obtain ⟨cs, rfl, hsz⟩ := okWide_struct Try.underlying24 hval
  obtain ⟨fuel, hf⟩ := hd
  obtain ⟨s, h, hw⟩ := cells_Setting _ _ _ hf
  refine ⟨s, ?_, hw⟩
  obtain ⟨l⟩ := cs
  have h : l = encSetting s := h
  subst h
  rfl
theorem to_Setting (s : GSetting) (v : Value) (w : World) (B : Nat) (h : SettingVL w B v s) (_ : B ≤ w.heap.size) (_ : sz1Setting s ≤ 1048576) :
    Calls Try.prog 17 #[v] w fun e w' => ∃ v', e = .returned v' ∧ SettingVO w' w.heap.size w'.heap.size v' s ∧ Below w.heap.size w w' := by
  obtain rfl := h.form
  exact (toSetting_any s w).mono fun e w' ⟨h1, h2⟩ => ⟨_, h1, rfl, h2⟩
end Go.Proofs.Ytklilfbokpljkab
