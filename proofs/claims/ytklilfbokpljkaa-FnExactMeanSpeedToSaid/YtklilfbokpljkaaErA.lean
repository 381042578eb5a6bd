/- Models of the ground: the specification's test, its depth. -/
import Derived.Test.YtklilfbokpljkaaErN
import Derived.Test.YtklilfbokpljkaaGood
import Derived.Test.YtklilfbokpljkaaQTail
import Derived.BigQuiet
namespace Go.Proofs.Ytklilfbokpljkaa
open Go.ChangeShapes Go.WideShapes Go.ChangeAt Go.RowKit Go.ChangeMaps
set_option linter.unusedSimpArgs false
set_option linter.unusedVariables false

theorem inEB (x a b : Int) (u : Bool) (w : World) (hu : decide (a ≤ x ∧ x ≤ b) = u) : Calls Try.prog 105 #[.int .i64 x, .int .i64 a, .int .i64 b] w fun e w' => e = .returned (.bool u) ∧ w' = w := by
  cases u with
  | true => exact inYes x a b w (of_decide_eq_true hu)
  | false => exact inNo x a b w (of_decide_eq_false hu)
/-- The layers before number k are valid. -/
def uptoE (xs : List GEarth) (k : Nat) : Prop := ∀ e ∈ xs.take k, okEa e
theorem uptoE_zero (xs : List GEarth) : uptoE xs 0 := by intro e he; simp at he
theorem uptoE_succ {xs : List GEarth} {k : Nat} {e : GEarth} (h : uptoE xs k) (he : xs[k]? = some e) (ho : okEa e) : uptoE xs (k + 1) := by
  unfold uptoE
  rw [take_snoc he]
  intro a ha
  rcases List.mem_append.1 ha with q | q
  · exact h a q
  · rw [List.mem_singleton] at q; rw [q]; exact ho
theorem okE_of {xs : List GEarth} (h : uptoE xs xs.length) (hl : 1 ≤ xs.length ∧ xs.length ≤ 5) : okE xs := by
  unfold uptoE at h
  rw [List.take_length] at h
  exact ⟨hl, h⟩
set_option maxRecDepth 100000 in
set_option maxHeartbeats 2000000 in
theorem specGoodE (xs : List GEarth) (v : Value) (u : Bool) (w : World) (B : Nat) (h : EarthL w B v xs) (hn : xs.length ≤ 1048576) (hu : goodE xs = u) :
    Calls Try.prog 104 #[v] w fun e w' => e = .returned (.bool u) ∧ w' = w := by
  obtain ⟨ao, cap, rfl, hcap, hmax, -, hc⟩ := h
  have HR := Lib.hid hu
  have HC := Lib.hid hc
  clear hc hu
  go_enter Try.func104, Try.ntmps104
  go_wp2
  go_loopw [3] (fun i wr => ∃ (k : Nat), k ≤ xs.length ∧ i = .int .i64 k ∧ Hid (uptoE xs k) ∧ wr = w) (fun i _ => xs.length - (intOf i).toNat)
  case atStart => exact ⟨0, Nat.zero_le _, rfl, Lib.hid (uptoE_zero xs), rfl⟩
  case round =>
    obtain ⟨k, hk, rfl, HU, hw⟩ := hrel
    subst hw
    by_cases hlt : k < xs.length
    case neg =>
      obtain rfl : k = xs.length := by omega
      have hv : decide ((1 : Int) ≤ (xs.length : Int) ∧ (xs.length : Int) ≤ 5) = u := by
        rw [← HR.out]
        by_cases hl : 1 ≤ xs.length ∧ xs.length ≤ 5
        · rw [goodE_mk (okE_of HU.out hl)]; exact decide_eq_true (by omega)
        · rw [goodE_no (fun g => hl g.1)]; exact decide_eq_false (by omega)
      have CI := Lib.hid (fun W => inEB (xs.length : Int) 1 5 u W hv)
      clear hv
      go_wp2_with fail
      refine (CI.out _).mono ?_
      rintro e w1 ⟨rfl, h1⟩
      obtain rfl : wr = w1 := h1.symm
      go_wp2
      go_ret
      exact ⟨rfl, rfl⟩
    obtain ⟨m, hm⟩ := get_of_lt hlt
    obtain ⟨b, off, rfl, hb, hcell⟩ := HC.out k m hm
    have c0 : wr.cell? ⟨b, off + k * 2, none⟩ = some (.int .i64 m.pThick) := hcell 0 _ rfl
    have c1 : wr.cell? ⟨b, off + k * 2 + 1, none⟩ = some (.int .i64 m.pSpeed) := hcell 1 _ rfl
    have hi0 : (0 : Int) ≤ (k : Int) := by omega
    have hi1 : (k : Int) < (xs.length : Int) := by omega
    have hi2 : (k : Int) ≤ 1048576 := by omega
    have HM := Lib.hid hm
    clear hm hcell
    by_cases t0 : 1 ≤ m.pThick ∧ m.pThick ≤ 200
    case neg =>
      have CT := Lib.hid (fun W => inEB m.pThick 1 200 false W (decide_eq_false t0))
      have HF : Hid (false = u) := Lib.hid (by rw [← HR.out]; exact (goodE_no fun g => t0 (okE_at g HM.out).1).symm)
      clear t0
      go_wp2_with fail
      refine (CT.out _).mono ?_
      rintro e w1 ⟨rfl, h1⟩
      obtain rfl : wr = w1 := h1.symm
      go_wp2
      go_ret
      exact ⟨ret_bool HF.out, rfl⟩
    have CT := Lib.hid (fun W => inEB m.pThick 1 200 true W (decide_eq_true t0))
    by_cases t1 : 1 ≤ m.pSpeed ∧ m.pSpeed ≤ 50
    case neg =>
      have CT1 := Lib.hid (fun W => inEB m.pSpeed 1 50 false W (decide_eq_false t1))
      have HF : Hid (false = u) := Lib.hid (by rw [← HR.out]; exact (goodE_no fun g => t1 (okE_at g HM.out).2).symm)
      clear t0 t1
      go_wp2_with fail
      refine (CT.out _).mono ?_
      rintro e w1 ⟨rfl, h1⟩
      obtain rfl : wr = w1 := h1.symm
      go_wp2_with fail
      refine (CT1.out _).mono ?_
      rintro e w1 ⟨rfl, h1⟩
      obtain rfl : wr = w1 := h1.symm
      go_wp2
      go_ret
      exact ⟨ret_bool HF.out, rfl⟩
    have CT1 := Lib.hid (fun W => inEB m.pSpeed 1 50 true W (decide_eq_true t1))
    have HU2 := Lib.hid (uptoE_succ HU.out HM.out ⟨t0, t1⟩)
    clear t0 t1
    go_wp2_with fail
    refine (CT.out _).mono ?_
    rintro e w1 ⟨rfl, h1⟩
    obtain rfl : wr = w1 := h1.symm
    go_wp2_with fail
    refine (CT1.out _).mono ?_
    rintro e w1 ⟨rfl, h1⟩
    obtain rfl : wr = w1 := h1.symm
    go_wp2
    go_roundw
    case rel => exact ⟨k + 1, by omega, by go_num, HU2, by first | rfl | trivial⟩
    case measure => simp [intOf]; omega
set_option maxRecDepth 100000 in
set_option maxHeartbeats 2000000 in
theorem specDepE (xs : List GEarth) (v : Value) (d : Int) (w : World) (B : Nat) (h : EarthL w B v xs) (hl : xs.length ≤ 5) (hok : ∀ e ∈ xs, okEa e) (hd : depE xs = d) :
    Calls Try.prog 106 #[v] w fun e w' => e = .returned (.int .i64 d) ∧ w' = w := by
  obtain ⟨ao, cap, rfl, hcap, hmax, -, hc⟩ := h
  have HR := Lib.hid hd
  have HC := Lib.hid hc
  have HO := Lib.hid hok
  clear hc hd hok
  go_enter Try.func106, Try.ntmps106
  go_wp2
  go_loopw [3, 4] (fun s i wr => ∃ (k : Nat) (t : Int), k ≤ xs.length ∧ i = .int .i64 k ∧ s = .int .i64 t ∧ Hid (depE (xs.take k) = t) ∧ (0 ≤ t ∧ t ≤ 200 * k) ∧ wr = w) (fun _ i _ => xs.length - (intOf i).toNat)
  case atStart => exact ⟨0, 0, Nat.zero_le _, rfl, rfl, Lib.hid rfl, by omega, rfl⟩
  case round =>
    obtain ⟨k, t, hk, rfl, rfl, HT, hbd, hw⟩ := hrel
    subst hw
    by_cases hlt : k < xs.length
    case neg =>
      have HF : Hid (t = d) := Lib.hid (by rw [← HR.out, ← HT.out, take_all hlt])
      go_wp2
      go_ret
      exact ⟨ret_int HF.out, rfl⟩
    obtain ⟨m, hm⟩ := get_of_lt hlt
    obtain ⟨b, off, rfl, hb, hcell⟩ := HC.out k m hm
    have c0 : wr.cell? ⟨b, off + k * 2, none⟩ = some (.int .i64 m.pThick) := hcell 0 _ rfl
    have hi0 : (0 : Int) ≤ (k : Int) := by omega
    have hi1 : (k : Int) < (xs.length : Int) := by omega
    have hi2 : (xs.length : Int) ≤ 5 := by omega
    have ho := HO.out m (List.mem_of_getElem? hm)
    unfold okEa at ho
    have HT2 : Hid (depE (xs.take (k + 1)) = t + m.pThick) := Lib.hid (by rw [depE_snoc hm, HT.out])
    have s1 : IntKind.i64.wrap (t + m.pThick) = t + m.pThick := IntWalk.i64_in _ (by omega)
    clear hm hcell
    go_wp2
    go_roundw
    case rel => exact ⟨k + 1, _, by omega, by go_num, rfl, HT2, by omega, by first | rfl | trivial⟩
    case measure => simp [intOf]; omega
end Go.Proofs.Ytklilfbokpljkaa
