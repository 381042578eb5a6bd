/- Contracts of the laws' helpers on slices of strings. -/
import Derived.Test.YtklilfbokpljkacBase
namespace Go.Proofs.Ytklilfbokpljkac
open Go.ChangeShapes Go.WideShapes Go.ChangeAt Go.RowKit Go.ChangeMaps
set_option linter.unusedSimpArgs false
set_option linter.unusedVariables false

def total (ss : List ByteArray) : Int := ss.length + (ss.map (fun s => (s.size : Int))).sum
def sizes (ss : List ByteArray) : Int := (ss.map (fun s => (s.size : Int))).sum
theorem sizes_nonneg (ss : List ByteArray) : 0 ≤ sizes ss := by
  unfold sizes
  induction ss with
  | nil => simp
  | cons s r ih => simp; omega
theorem sizes_take (ss : List ByteArray) (k : Nat) : sizes (ss.take k) ≤ sizes ss := by
  have h : sizes ss = sizes (ss.take k) + sizes (ss.drop k) := by
    unfold sizes
    rw [← List.sum_append, ← List.map_append, List.take_append_drop]
  have := sizes_nonneg (ss.drop k)
  omega
theorem sizes_succ (ss : List ByteArray) (k : Nat) {s : ByteArray} (h : ss[k]? = some s) : sizes (ss.take (k + 1)) = sizes (ss.take k) + (s.size : Int) := by
  unfold sizes
  rw [List.take_add_one, h]
  simp
theorem infoString : (Try.prog.info? 9).map (fun i => (i.zero, i.size, i.bytes)) = some (some (.string .empty), 1, 16) := by kernel_rfl

theorem run_conv_one {P : Program} (W : World) (src dst e t : TypeId) (n : Int)
    (hs : P.underlying src = some (.slice e)) (he : P.underlying e = some (.int .u8)) (hd : P.underlying dst = some .string) :
    (convert src dst (.slice (some ⟨W.heap.size, 0, none⟩) 1 1)).run P (W.alloc (.cells #[.int .u8 n] t)) =
      .ok (.string ⟨#[UInt8.ofNat n.toNat]⟩) (W.alloc (.cells #[.int .u8 n] t)) := by
  rw [run_convert_bytes_string _ _ _ _ _ _ _ hs he hd]
  have hc := cell_one_new W (.int .u8 n) t 0 _ rfl
  rw [run_bytesToString _ _ _ _ [n] (by simp [loadCells, loadCellsFrom, hc])]
  rfl

/-- The digits of k ahead of a text, as the law's helper writes them. -/
def digits : Nat → Nat → List UInt8 → List UInt8
  | 0, _, l => l
  | f + 1, k, l => if k = 0 then l else digits f (k / 10) ((48 + UInt8.ofNat (k % 10)) :: l)
theorem digits_zero (f : Nat) (l : List UInt8) : digits f 0 l = l := by cases f <;> simp [digits]
theorem digits_step (f k : Nat) (l : List UInt8) (h : 0 < k) : digits (f + 1) k l = digits f (k / 10) ((48 + UInt8.ofNat (k % 10)) :: l) := by
  simp [digits]; omega
def mark (k : Int) : ByteArray := if k ≤ 0 then ⟨#[109, 48]⟩ else ⟨#[109]⟩ ++ ⟨(digits 20 k.toNat []).toArray⟩
theorem size_cons (c : UInt8) (q : ByteArray) : (({ data := #[c] } : ByteArray) ++ q).size = q.size + 1 := by
  rw [ByteArray.size_append, Nat.add_comm]; rfl
theorem list_cons (c : UInt8) (q : ByteArray) : (({ data := #[c] } : ByteArray) ++ q).data.toList = c :: q.data.toList := by
  simp

/-- n marks from k on. -/
def marks (k : Int) (n : Nat) : List ByteArray := (List.range n).map fun (i : Nat) => mark (k + i)
theorem marks_get {k : Int} {n i : Nat} (h : i < n) : (marks k n)[i]? = some (mark (k + i)) := by simp [marks, h]
theorem marks_len (k : Int) (n : Nat) : (marks k n).length = n := by simp [marks]
theorem eq_marks {k : Int} {n : Nat} {cs : List ByteArray} (hl : cs.length = n) (h : ∀ i, i < n → cs[i]? = some (mark (k + i))) : cs = marks k n := by
  apply List.ext_getElem?
  intro i
  by_cases hi : i < n
  · rw [h i hi, marks_get hi]
  · rw [List.getElem?_eq_none (by omega), List.getElem?_eq_none (by rw [marks_len]; omega)]

end Go.Proofs.Ytklilfbokpljkac
