/- Packing: bytes of samples, both programs. -/
import Derived.Test.YtklilfbokpljkaaPkS
import Derived.Test.YtklilfbokpljkaaApS
namespace Go.Proofs.Ytklilfbokpljkaa
open Go.ChangeShapes Go.WideShapes Go.ChangeAt Go.RowKit Go.ChangeMaps
set_option linter.unusedSimpArgs false
set_option linter.unusedVariables false

def resPck (xs : List Int) : List Int := if okL xs then pk xs else []
theorem resPck_len (xs : List Int) : (resPck xs).length ≤ 1048576 := by
  unfold resPck
  split
  · rename_i h
    have := pk_len xs
    have := (okL_yes h).2
    omega
  · simp
theorem dif_okD {xs : List Int} (h : okL xs = true) : ∀ d ∈ dif xs, okD d = true := dif_ok xs 0 (by omega) (okL_yes h).1
theorem pkD_step {ds : List Int} {k : Nat} {d : Int} (h : ds[k]? = some d) : pkD (ds.take (k + 1)) = pkD (ds.take k) ++ byt (fold d) := by rw [take_snoc h, pkD_snoc]
theorem pkD_lenk (ds : List Int) (k : Nat) : (pkD (ds.take k)).length ≤ 3 * k := by
  have := (pkD_len (ds.take k)).2
  rw [List.length_take] at this
  omega

end Go.Proofs.Ytklilfbokpljkaa
