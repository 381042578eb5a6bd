/- Models of the ground: the program's tests. -/
import Derived.Test.YtklilfbokpljkaaErD
import Derived.Test.YtklilfbokpljkaaCurG
import Derived.Lib.QuietBelow
import Derived.Deep.LoopGhost
namespace Go.Proofs.Ytklilfbokpljkaa
open Go.ChangeShapes Go.WideShapes Go.ChangeAt Go.RowKit Go.ChangeMaps Go.Sort
set_option linter.unusedSimpArgs false
set_option linter.unusedVariables false
set_option linter.unusedSimpArgs false
set_option linter.unusedVariables false

/-- areWithin at one number, which lies in a block of its own. -/
theorem withinOne (lo hi n : Int) (b : Nat) (u : Bool) (w : World) (hb : Bx w b [.int .i64 n]) (hu : decide (lo ≤ n ∧ n ≤ hi) = u) :
    Calls Try.prog 109 #[.int .i64 lo, .int .i64 hi, .slice (some ⟨b, 0, none⟩) 1 1] w fun e w' => e = .returned (.bool u) ∧ w' = w := by
  have c0 : w.cell? ⟨b, 0, none⟩ = some (.int .i64 n) := hb.2 0 _ rfl
  have HU := Lib.hid hu
  clear hu hb
  go_enter Try.func109, Try.ntmps109
  go_wp2
  go_loop [11] (fun i => i = .int .i64 0 ∨ (i = .int .i64 1 ∧ Hid (lo ≤ n ∧ n ≤ hi))) (fun i => 1 - (intOf i).toNat)
  case atStart => exact Or.inl rfl
  case round =>
    rcases hrel with rfl | ⟨rfl, HO⟩
    · by_cases h1 : lo ≤ n
      · by_cases h2 : n ≤ hi
        · have HX := Lib.hid (show lo ≤ n ∧ n ≤ hi from ⟨h1, h2⟩)
          go_wp2
          go_round
          case rel => exact Or.inr ⟨by go_num, HX⟩
          case measure => simp [intOf]
        · have HF : Hid (false = u) := Lib.hid (by rw [← HU.out]; exact (decide_eq_false fun g => h2 g.2).symm)
          go_wp2
          go_ret
          exact ⟨ret_bool HF.out, rfl⟩
      · have HF : Hid (false = u) := Lib.hid (by rw [← HU.out]; exact (decide_eq_false fun g => h1 g.1).symm)
        go_wp2
        go_ret
        exact ⟨ret_bool HF.out, rfl⟩
    · have HF : Hid (true = u) := Lib.hid (by rw [← HU.out]; exact (decide_eq_true HO.out).symm)
      go_wp2
      go_ret
      exact ⟨ret_bool HF.out, rfl⟩
/-- The time for a kilometer of layer i, in parts, of the first m layers. -/
def fkU (P : Int) (xs : List GEarth) (m i : Nat) : Int := if i < m then (match xs[i]? with | some e => fkE P e | none => 0) else 0
def topU (P : Int) (xs : List GEarth) (m i : Nat) : Int := if i < m then topE P xs i else 0
/-- The cells of the times in a model, m and m' layers of them laid. -/
def tvG (l P : Int) (Q : Int) (xs : List GEarth) (m m' : Nat) : List Value :=
  [.int .i64 l, .int .i64 P, .int .i64 (fkU Q xs m 0), .int .i64 (fkU Q xs m 1), .int .i64 (fkU Q xs m 2), .int .i64 (fkU Q xs m 3), .int .i64 (fkU Q xs m 4),
    .int .i64 (topU Q xs m' 0), .int .i64 (topU Q xs m' 1), .int .i64 (topU Q xs m' 2), .int .i64 (topU Q xs m' 3), .int .i64 (topU Q xs m' 4)]
theorem tvG_fk {l P Q : Int} {xs : List GEarth} {m m' i : Nat} (h : i < 5) : (tvG l P Q xs m m')[2 + i]? = some (.int .i64 (fkU Q xs m i)) := by
  match i, h with
  | 0, _ => rfl
  | 1, _ => rfl
  | 2, _ => rfl
  | 3, _ => rfl
  | 4, _ => rfl
theorem tvG_top {l P Q : Int} {xs : List GEarth} {m m' i : Nat} (h : i < 5) : (tvG l P Q xs m m')[7 + i]? = some (.int .i64 (topU Q xs m' i)) := by
  match i, h with
  | 0, _ => rfl
  | 1, _ => rfl
  | 2, _ => rfl
  | 3, _ => rfl
  | 4, _ => rfl
theorem fkU_at {Q : Int} {xs : List GEarth} {m i : Nat} {e : GEarth} (h : i < m) (he : xs[i]? = some e) : fkU Q xs m i = fkE Q e := by unfold fkU; rw [if_pos h, he]
theorem topU_at {Q : Int} {xs : List GEarth} {m i : Nat} (h : i < m) : topU Q xs m i = topE Q xs i := by unfold topU; rw [if_pos h]
theorem fkU_succ {Q : Int} {xs : List GEarth} {m i : Nat} (h : i ≠ m) : fkU Q xs (m + 1) i = fkU Q xs m i := by
  unfold fkU
  by_cases q : i < m
  · rw [if_pos q, if_pos (by omega)]
  · rw [if_neg q, if_neg (by omega)]
theorem topU_succ {Q : Int} {xs : List GEarth} {m i : Nat} (h : i ≠ m) : topU Q xs (m + 1) i = topU Q xs m i := by
  unfold topU
  by_cases q : i < m
  · rw [if_pos q, if_pos (by omega)]
  · rw [if_neg q, if_neg (by omega)]
theorem tvG_setFk {l P Q : Int} {xs : List GEarth} {m m' : Nat} {e : GEarth} (he : xs[m]? = some e) (h : m < 5) : (tvG l P Q xs m m').set (2 + m) (.int .i64 (fkE Q e)) = tvG l P Q xs (m + 1) m' := by
  rw [← fkU_at (Q := Q) (m := m + 1) (Nat.lt_succ_self m) he]
  match m, h with
  | 0, _ => unfold tvG; rw [fkU_succ (m := 0) (i := 1) (by decide), fkU_succ (m := 0) (i := 2) (by decide), fkU_succ (m := 0) (i := 3) (by decide), fkU_succ (m := 0) (i := 4) (by decide)]; rfl
  | 1, _ => unfold tvG; rw [fkU_succ (m := 1) (i := 0) (by decide), fkU_succ (m := 1) (i := 2) (by decide), fkU_succ (m := 1) (i := 3) (by decide), fkU_succ (m := 1) (i := 4) (by decide)]; rfl
  | 2, _ => unfold tvG; rw [fkU_succ (m := 2) (i := 0) (by decide), fkU_succ (m := 2) (i := 1) (by decide), fkU_succ (m := 2) (i := 3) (by decide), fkU_succ (m := 2) (i := 4) (by decide)]; rfl
  | 3, _ => unfold tvG; rw [fkU_succ (m := 3) (i := 0) (by decide), fkU_succ (m := 3) (i := 1) (by decide), fkU_succ (m := 3) (i := 2) (by decide), fkU_succ (m := 3) (i := 4) (by decide)]; rfl
  | 4, _ => unfold tvG; rw [fkU_succ (m := 4) (i := 0) (by decide), fkU_succ (m := 4) (i := 1) (by decide), fkU_succ (m := 4) (i := 2) (by decide), fkU_succ (m := 4) (i := 3) (by decide)]; rfl
theorem tvG_setTop {l P Q : Int} {xs : List GEarth} {m m' : Nat} (h : m < 5) : (tvG l P Q xs m' m).set (7 + m) (.int .i64 (topE Q xs m)) = tvG l P Q xs m' (m + 1) := by
  rw [← topU_at (Q := Q) (xs := xs) (m := m + 1) (Nat.lt_succ_self m)]
  match m, h with
  | 0, _ => unfold tvG; rw [topU_succ (m := 0) (i := 1) (by decide), topU_succ (m := 0) (i := 2) (by decide), topU_succ (m := 0) (i := 3) (by decide), topU_succ (m := 0) (i := 4) (by decide)]; rfl
  | 1, _ => unfold tvG; rw [topU_succ (m := 1) (i := 0) (by decide), topU_succ (m := 1) (i := 2) (by decide), topU_succ (m := 1) (i := 3) (by decide), topU_succ (m := 1) (i := 4) (by decide)]; rfl
  | 2, _ => unfold tvG; rw [topU_succ (m := 2) (i := 0) (by decide), topU_succ (m := 2) (i := 1) (by decide), topU_succ (m := 2) (i := 3) (by decide), topU_succ (m := 2) (i := 4) (by decide)]; rfl
  | 3, _ => unfold tvG; rw [topU_succ (m := 3) (i := 0) (by decide), topU_succ (m := 3) (i := 1) (by decide), topU_succ (m := 3) (i := 2) (by decide), topU_succ (m := 3) (i := 4) (by decide)]; rfl
  | 4, _ => unfold tvG; rw [topU_succ (m := 4) (i := 0) (by decide), topU_succ (m := 4) (i := 1) (by decide), topU_succ (m := 4) (i := 2) (by decide), topU_succ (m := 4) (i := 3) (by decide)]; rfl
/-- All times of a model. -/
def tvE (xs : List GEarth) : List Value := tvG xs.length (prodE xs) (prodE xs) xs xs.length xs.length
set_option maxRecDepth 100000 in
set_option maxHeartbeats 2000000 in
theorem implVia (xs : List GEarth) (k : Nat) (D r : Int) (w : World) (hok : okE xs) (hk : k < xs.length) (h0 : 0 ≤ D) (h1 : D ≤ 2000) (hr : viaE (prodE xs) xs D k = r) :
    Calls Try.prog 111 #[.agg (tvE xs).toArray, .int .i64 k, .int .i64 D] w fun e w' => e = .returned (.int .i64 r) ∧ Grew w w' := by
  have bx : Bx (w.alloc (.cells (tvE xs).toArray 89)) w.heap.size (tvE xs) := Bx.new w (tvE xs) 89
  have hl5 := hok.1.2
  obtain ⟨m, hm⟩ := get_of_lt hk
  have c0 := bx.2 (7 + k) _ (tvG_top (by omega))
  have c1 := bx.2 (2 + k) _ (tvG_fk (by omega))
  rw [topU_at hk] at c0
  rw [fkU_at hk hm] at c1
  have f := fkE_bd hok (List.mem_of_getElem? hm)
  have t := topE_bd hok k (by omega)
  have e := viaE_at (P := prodE xs) (d := D) hm
  rw [hr] at e
  have f1 : 0 ≤ fkE (prodE xs) m ∧ fkE (prodE xs) m ≤ 6250000 := by omega
  generalize topE (prodE xs) xs k = tp at *
  generalize fkE (prodE xs) m = fk at *
  have m1 := mul_bdE (A := 2000) (C := 6250000) h0 h1 f1.1 f1.2
  have s1 : IntKind.i64.wrap (2 * tp) = 2 * tp := IntWalk.i64_in _ (by omega)
  have s2 : IntKind.i64.wrap (D * fk) = D * fk := IntWalk.i64_in _ (by omega)
  have s3 : IntKind.i64.wrap (2 * tp + D * fk) = r := by rw [← e]; exact IntWalk.i64_in _ (by omega)
  have hi0 : (0 : Int) ≤ (k : Int) := by omega
  have hi1 : (k : Int) < 5 := by omega
  have hi2 : k < 5 := by omega
  clear e m1 t f hm hr
  generalize tvE xs = cs at *
  go_enter Try.func111, Try.ntmps111
  go_wp2
  go_quiet (fail)
  go_wp2
  go_ret
  exact ⟨rfl, ((Grew.refl w).alloc _).drewN _⟩
end Go.Proofs.Ytklilfbokpljkaa
