/- The specification's draws for the laws on votes. -/
import Derived.Test.YtdiedfpfhbdamaaVdB
import Derived.Test.YtdiedfpfhbdamaaVoH
namespace Go.Proofs.Ytdiedfpfhbdamaa
open Go.ChangeShapes Go.WideShapes Go.ChangeAt Go.RowKit Go.ChangeMaps
set_option linter.unusedSimpArgs false
set_option linter.unusedVariables false
set_option linter.unusedSimpArgs false
set_option linter.unusedVariables false

/-- Arrivals that a draw gives. -/
structure DrAr (w w' : World) (v : Value) (xs : List GArrival) : Prop where
  own : ArrivalO w' w.heap.size w'.heap.size v xs
  len : xs.length ≤ 12
  bd : ∀ s ∈ xs, BdA s
  below : Below w.heap.size w w'
theorem Adl.drawn {w w' : World} {o : Obj} {B k : Nat} {v : Value} {xs : List GArrival} (h : Adl (w.alloc o) w' B w.heap.size k v xs) : DrAr w w' v xs :=
  ⟨h.own.mono (by simp) (Nat.le_refl _), h.len, h.bd, grown_below h.gr⟩
theorem DrAr.drewN {w w' : World} {v : Value} {xs : List GArrival} (h : DrAr w w' v xs) (n : Nat) : DrAr w (w'.drewN n) v xs :=
  ⟨h.own, h.len, h.bd, drewN_b h.below n⟩
theorem cur_new1V (w : World) (o : Obj) (B : Nat) (ao : Option Addr) (n cap : Nat) (hB : B ≤ w.heap.size) (hn : n ≤ 65536) (hc : Code w B ao n) :
    Cur ((w.alloc o).alloc (.cells #[.slice ao n cap, .int .i64 0, .int .u64 0] 104)) B (w.heap.size + 1) 0 := by
  have h := cur_new (w.alloc o) B ao n cap (by simp; omega) hn (hc.keep fun bb o' hbb => ((Below.refl B w).alloc hB o).cell (p := ⟨bb, o', none⟩) hbb)
  rwa [World.size_alloc] at h
theorem cur_new2V (w : World) (o p : Obj) (B : Nat) (ao : Option Addr) (n cap : Nat) (hB : B ≤ w.heap.size) (hn : n ≤ 65536) (hc : Code w B ao n) :
    Cur (((w.alloc o).alloc p).alloc (.cells #[.slice ao n cap, .int .i64 0, .int .u64 0] 104)) B (w.heap.size + 2) 0 := by
  have h := cur_new1V (w.alloc o) p B ao n cap (by simp; omega) hn (hc.keep fun bb o' hbb => ((Below.refl B w).alloc hB o).cell (p := ⟨bb, o', none⟩) hbb)
  rwa [World.size_alloc] at h
end Go.Proofs.Ytdiedfpfhbdamaa
