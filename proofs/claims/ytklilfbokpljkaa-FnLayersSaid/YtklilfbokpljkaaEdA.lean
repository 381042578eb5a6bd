/- The specification's draws of models. -/
import Derived.Test.YtklilfbokpljkaaFEarth
import Derived.Test.YtklilfbokpljkaaCurG
import Derived.Test.YtklilfbokpljkaaErF
import Derived.Deep.CutBlock
import Derived.Deep.CutRange
import Derived.Deep.DeepCutAuto
namespace Go.Proofs.Ytklilfbokpljkaa
open Go.ChangeShapes Go.WideShapes Go.ChangeAt Go.RowKit Go.ChangeMaps
set_option linter.unusedSimpArgs false
set_option linter.unusedVariables false
set_option linter.unusedSimpArgs false
set_option linter.unusedVariables false

theorem info_EarthP : (Try.prog.info? 83).map (fun i => (i.zero, i.size, i.bytes)) = some (some (.agg #[.int .i64 0, .int .i64 0]), 2, 16) := by kernel_rfl
def BdE (s : GEarth) : Prop := (0 ≤ s.pThick ∧ s.pThick ≤ 300) ∧ (0 ≤ s.pSpeed ∧ s.pSpeed ≤ 300)
theorem BdE.wf {s : GEarth} (h : BdE s) : wfEarth s := by unfold BdE at h; unfold wfEarth I64; omega
/-- A list of layers that grows beside the cursor. -/
structure Est (w0 w : World) (B b k : Nat) (v : Value) (xs : List GEarth) : Prop where
  form : ∃ g cap, v = .slice (some ⟨g, 0, none⟩) xs.length cap
  row : w.ownsRow w0.heap.size 83 2 v xs.length (xs.flatMap encEarth)
  bd : ∀ s ∈ xs, BdE s
  cur : Cur w B b k
  gr : w0.grownBy w (some b)
theorem Est.below {w0 w w' : World} {B b k : Nat} {v : Value} {xs : List GEarth} (h : Est w0 w B b k v xs) (hb : Below w.heap.size w w') : Est w0 w' B b k v xs :=
  ⟨h.form, row_below h.row hb, h.bd, h.cur.keep (World.Below_grown hb) (by simp), grown_up h.gr (World.Below_grown hb) (by simp)⟩
theorem Est.alloc {w0 w : World} {B b k : Nat} {v : Value} {xs : List GEarth} (h : Est w0 w B b k v xs) (o : Obj) : Est w0 (w.alloc o) B b k v xs := h.below ((Below.refl _ w).alloc (Nat.le_refl _) o)
theorem Est.draw {w0 w w' : World} {B b k k' : Nat} {v : Value} {xs : List GEarth} (h : Est w0 w B b k v xs) (hb : b < w0.heap.size) (hg : w.grownBy w' (some b)) (hc : Cur w' B b k') : Est w0 w' B b k' v xs :=
  ⟨h.form, kept_row h.row hg hb, h.bd, hc, h.gr.trans hg⟩
theorem Est.mono {w0 w : World} {B b k k' : Nat} {v : Value} {xs : List GEarth} (h : Est w0 w B b k v xs) (hk : k ≤ k') : Est w0 w B b k' v xs := ⟨h.form, h.row, h.bd, h.cur.mono hk, h.gr⟩
theorem est_snoc {w0 w w' : World} {B b k : Nat} {v v' : Value} {o : Obj} {xs : List GEarth} {s : GEarth} (hb : b < w0.heap.size) (h : Est w0 w B b k v xs) (hs : BdE s)
    (hr' : w'.ownsRow w0.heap.size 83 2 v' (xs.length + 1) (xs.flatMap encEarth ++ encEarth s)) (hg : (w.alloc o).grownBy w' v.ownBlock) : Est w0 w' B b k v' (xs ++ [s]) := by
  have hr := h.row
  have hlo : ∀ g, v.ownBlock = some g → w0.heap.size ≤ g := fun g e => (hr.lt g e).1
  have e1 : (xs ++ [s]).flatMap encEarth = xs.flatMap encEarth ++ encEarth s := by simp [List.flatMap_append]
  have e2 : (xs ++ [s]).length = xs.length + 1 := by simp
  obtain ⟨g, cap, rfl, _⟩ := row_some hr' (by omega)
  refine ⟨⟨g, cap, by rw [e2]⟩, by rw [e1, e2]; exact hr', fun t ht => ?_, (h.cur.alloc _).keep hg fun g e => Nat.lt_of_lt_of_le hb (hlo g e), grown_up (h.gr.trans (grown_alloc _ _ _)) hg hlo⟩
  rcases List.mem_append.1 ht with q | q
  · exact h.bd t q
  · rw [List.mem_singleton] at q; rw [q]; exact hs
/-- A model that was drawn. -/
structure Mdl (w0 w : World) (B b k : Nat) (v : Value) (xs : List GEarth) : Prop where
  form : ∃ g cap, v = .slice (some ⟨g, 0, none⟩) xs.length cap
  own : EarthO w w0.heap.size w.heap.size v xs
  len : xs.length ≤ 6
  bd : ∀ s ∈ xs, BdE s
  cur : Cur w B b k
  gr : w0.grownBy w (some b)
theorem Est.mdl {w0 w : World} {B b k : Nat} {v : Value} {xs : List GEarth} (h : Est w0 w B b k v xs) (hl : xs.length ≤ 6) : Mdl w0 w B b k v xs :=
  ⟨h.form, (OwnK.of_row encEarth_len (by omega) h.row).mono (Nat.le_refl _) (Nat.le_refl _), hl, h.bd, h.cur, h.gr⟩
theorem Mdl.below {w0 w w' : World} {B b k : Nat} {v : Value} {xs : List GEarth} (h : Mdl w0 w B b k v xs) (hb : Below w.heap.size w w') : Mdl w0 w' B b k v xs :=
  ⟨h.form, (h.own.below hb).mono (Nat.le_refl _) hb.size, h.len, h.bd, h.cur.keep (World.Below_grown hb) (by simp), grown_up h.gr (World.Below_grown hb) (by simp)⟩
theorem Mdl.alloc {w0 w : World} {B b k : Nat} {v : Value} {xs : List GEarth} (h : Mdl w0 w B b k v xs) (o : Obj) : Mdl w0 (w.alloc o) B b k v xs := h.below ((Below.refl _ w).alloc (Nat.le_refl _) o)
theorem Mdl.draw {w0 w w' : World} {B b k k' : Nat} {v : Value} {xs : List GEarth} (h : Mdl w0 w B b k v xs) (hb : b < w0.heap.size) (hg : w.grownBy w' (some b)) (hc : Cur w' B b k') : Mdl w0 w' B b k' v xs :=
  ⟨h.form, (h.own.kept hg.size fun i h1 _ h3 => hg.block i h3 (by intro e; cases e; omega)).mono (Nat.le_refl _) hg.size, h.len, h.bd, hc, h.gr.trans hg⟩
theorem Mdl.mono {w0 w : World} {B b k k' : Nat} {v : Value} {xs : List GEarth} (h : Mdl w0 w B b k v xs) (hk : k ≤ k') : Mdl w0 w B b k' v xs := ⟨h.form, h.own, h.len, h.bd, h.cur.mono hk, h.gr⟩
theorem Mdl.lst {w0 w : World} {B b k : Nat} {v : Value} {xs : List GEarth} (h : Mdl w0 w B b k v xs) : EarthL w w.heap.size v xs := h.own.lst
theorem mdl_sz {xs : List GEarth} (h : xs.length ≤ 6) : szsEarth xs ≤ 1048576 := by rw [szsEarth_split]; omega
end Go.Proofs.Ytklilfbokpljkaa
