/- Location by boxes: the specification's tests. -/
import Derived.Test.YtoogofceoinniaaLoD
import Derived.Test.YtoogofceoinniaaVoA
import Derived.Test.YtoogofceoinniaaStaW
import Derived.Test.YtoogofceoinniaaFiA
import Derived.Test.YtoogofceoinniaaGrew
import Derived.BigQuiet
import Derived.IntWalk
import Derived.Lib.QuietBelow
namespace Go.Proofs.Ytoogofceoinniaa
open Go.ChangeShapes Go.WideShapes Go.ChangeAt Go.RowKit Go.ChangeMaps Go.Sort
set_option linter.unusedSimpArgs false
set_option linter.unusedVariables false
set_option linter.unusedSimpArgs false
set_option linter.unusedVariables false

theorem side_next {m n : Int} (hm : okSide m) (hn : okSide n) (h : m < 2 * n) : m < n ∨ m = n := by
  rw [okSide_iff] at hm hn
  omega
set_option maxRecDepth 100000 in
set_option maxHeartbeats 4000000 in
theorem specSide (s : Int) (u : Bool) (w : World) (hu : sideB s = u) :
    Calls Try.prog 92 #[.int .i64 s] w fun e w' => e = .returned (.bool u) ∧ w = w' := by
  have HR := Lib.hid hu
  clear hu
  go_enter Try.func92, Try.ntmps92
  go_wp2
  go_loop [3] (fun i => ∃ n : Int, i = .int .i64 n ∧ (1 ≤ n ∧ n ≤ 1024) ∧ Hid (n ≤ 512 → okSide n) ∧ Hid (∀ m, okSide m → m < n → s ≠ m)) (fun i => 1024 - (intOf i).toNat)
  case atStart => exact ⟨1, rfl, by omega, Lib.hid (fun _ => ⟨0, by omega, rfl⟩), Lib.hid (fun m hm hl => by have := okSide_bd hm; omega)⟩
  case round =>
    obtain ⟨n, rfl, hn, HN, HA⟩ := hrel
    by_cases hlt : n ≤ 512
    case neg =>
      have HF : Hid (false = u) := Lib.hid (by rw [← HR.out, sideB_no (fun g => HA.out s g (by have := okSide_bd g; omega) rfl)])
      go_wp2
      go_ret
      exact ⟨ret_bool HF.out, rfl⟩
    by_cases he : s = n
    · have HF : Hid (true = u) := Lib.hid (by rw [← HR.out, he, sideB_mk (HN.out hlt)])
      go_wp2
      go_ret
      exact ⟨ret_bool HF.out, rfl⟩
    · have HN2 : Hid (2 * n ≤ 512 → okSide (2 * n)) := Lib.hid (fun g => by
        have := HN.out hlt
        rw [okSide_iff] at this ⊢
        omega)
      have HA2 : Hid (∀ m, okSide m → m < 2 * n → s ≠ m) := Lib.hid (fun m hm hl => by
        rcases side_next hm (HN.out hlt) hl with q | q
        · exact HA.out m hm q
        · rw [q]; exact he)
      go_wp2
      go_round
      case rel => exact ⟨2 * n, by go_num, by omega, HN2, HA2⟩
      case measure => simp [intOf]; omega
abbrev aggCb (b : GCube) : Value := .agg #[.int .i64 b.pWest, .int .i64 b.pSouth, .int .i64 b.pSide, .int .i64 b.pFrom, .int .i64 b.pTo]
abbrev objCb (b : GCube) : Obj := .cells #[.int .i64 b.pWest, .int .i64 b.pSouth, .int .i64 b.pSide, .int .i64 b.pFrom, .int .i64 b.pTo] 25
theorem inC_iff {x a b : Int} : inB x a b = true ↔ a ≤ x ∧ x ≤ b := by unfold inB; exact decide_eq_true_iff
theorem below_cube {B : Nat} {w : World} (h : B ≤ w.heap.size) (o : Obj) : Below B w (w.alloc o) := (Below.refl _ _).alloc h o
theorem sideB_iff {s : Int} : sideB s = true ↔ okSide s := ⟨sideB_yes, sideB_mk⟩
def modB (x s : Int) : Bool := decide (x % s = 0)
theorem modB_iff {x s : Int} : modB x s = true ↔ s ∣ x := by unfold modB; rw [decide_eq_true_eq, Int.dvd_iff_emod_eq_zero]
theorem goodCb_eq (b : GCube) : goodCb b = (sideB b.pSide && (plcB b.pWest b.pSouth && (modB b.pWest b.pSide && (modB b.pSouth b.pSide && (inB b.pFrom 0 1000000 && (inB b.pTo 0 1000000 && decide (b.pFrom ≤ b.pTo))))))) := by
  rw [Bool.eq_iff_iff]
  have e : goodCb b = true ↔ okCb b := ⟨goodCb_yes, goodCb_mk⟩
  rw [e]
  unfold okCb
  simp only [Bool.and_eq_true, decide_eq_true_eq, inC_iff, sideB_iff, plcB_iff, modB_iff, and_assoc]
set_option maxRecDepth 100000 in
set_option maxHeartbeats 4000000 in
theorem specGoodCb (b : GCube) (u : Bool) (w : World) (hu : goodCb b = u) :
    Calls Try.prog 48 #[aggCb b] w fun e w' => e = .returned (.bool u) ∧ Below w.heap.size w w' := by
  rw [goodCb_eq] at hu
  generalize h0 : sideB b.pSide = b0 at hu
  generalize h1 : plcB b.pWest b.pSouth = b1 at hu
  generalize h2 : inB b.pFrom 0 1000000 = b2 at hu
  generalize h3 : inB b.pTo 0 1000000 = b3 at hu
  have H0 := Lib.hid h0
  have H1 := Lib.hid h1
  have H2 := Lib.hid h2
  have H3 := Lib.hid h3
  have HU := Lib.hid hu
  clear hu h0 h1 h2 h3
  have N := Lib.hid (below_cube (w := w) (Nat.le_refl _) (objCb b))
  go_enter Try.func48, Try.ntmps48
  go_wp2_with fail
  refine (specSide _ b0 _ H0.out).mono ?_
  rintro e w' ⟨rfl, rfl⟩
  cases b0
  case false =>
    have HF : Hid (false = u) := Lib.hid (by rw [← HU.out]; simp)
    go_wp2
    go_ret
    exact ⟨ret_bool HF.out, N.out⟩
  have sb := okSide_bd (sideB_yes H0.out)
  go_wp2_with fail
  refine (specPlace _ _ b1 _ H1.out).mono ?_
  rintro e w' ⟨rfl, rfl⟩
  cases b1
  case false =>
    have HF : Hid (false = u) := Lib.hid (by rw [← HU.out]; simp)
    go_wp2
    go_ret
    exact ⟨ret_bool HF.out, N.out⟩
  have pb := plcB_iff.1 H1.out
  have s0 : ¬ b.pSide = 0 := by omega
  by_cases g1 : b.pWest % b.pSide = 0
  case neg =>
    have HF : Hid (false = u) := Lib.hid (by rw [← HU.out]; unfold modB; rw [decide_eq_false g1]; simp)
    go_wp2
    go_ret
    exact ⟨ret_bool HF.out, N.out⟩
  by_cases g2 : b.pSouth % b.pSide = 0
  case neg =>
    have HF : Hid (false = u) := Lib.hid (by rw [← HU.out]; unfold modB; rw [decide_eq_true g1, decide_eq_false g2]; simp)
    go_wp2
    go_ret
    exact ⟨ret_bool HF.out, N.out⟩
  have HG := Lib.hid (show modB b.pWest b.pSide = true ∧ modB b.pSouth b.pSide = true from ⟨decide_eq_true g1, decide_eq_true g2⟩)
  go_wp2_with fail
  refine (specTick _ b2 _ H2.out).mono ?_
  rintro e w' ⟨rfl, rfl⟩
  cases b2
  case false =>
    have HF : Hid (false = u) := Lib.hid (by rw [← HU.out, HG.out.1, HG.out.2]; simp)
    go_wp2
    go_ret
    exact ⟨ret_bool HF.out, N.out⟩
  go_wp2_with fail
  refine (specTick _ b3 _ H3.out).mono ?_
  rintro e w' ⟨rfl, rfl⟩
  cases b3
  case false =>
    have HF : Hid (false = u) := Lib.hid (by rw [← HU.out, HG.out.1, HG.out.2]; simp)
    go_wp2
    go_ret
    exact ⟨ret_bool HF.out, N.out⟩
  have HF : Hid (decide (b.pFrom ≤ b.pTo) = u) := Lib.hid (by rw [← HU.out, HG.out.1, HG.out.2]; simp)
  go_wp2
  go_ret
  exact ⟨ret_bool HF.out, N.out⟩
theorem holdsC_eq (b : GCube) (o : GOrigin) : holdsC b o = (inB o.pX b.pWest (b.pWest + b.pSide - 1) && (inB o.pY b.pSouth (b.pSouth + b.pSide - 1) && inB o.pTick b.pFrom b.pTo)) := by
  rw [Bool.eq_iff_iff]
  unfold holdsC
  simp only [Bool.and_eq_true, decide_eq_true_eq, inC_iff]
set_option maxHeartbeats 1000000 in
theorem specInCb (b : GCube) (o : GOrigin) (u : Bool) (w : World) (hb : okCb b) (hu : holdsC b o = u) :
    Calls Try.prog 81 #[aggCb b, aggO o] w fun e w' => e = .returned (.bool u) ∧ Below w.heap.size w w' := by
  rw [holdsC_eq] at hu
  generalize h0 : inB o.pX b.pWest (b.pWest + b.pSide - 1) = b0 at hu
  generalize h1 : inB o.pY b.pSouth (b.pSouth + b.pSide - 1) = b1 at hu
  generalize h2 : inB o.pTick b.pFrom b.pTo = b2 at hu
  have H0 := Lib.hid h0
  have H1 := Lib.hid h1
  have H2 := Lib.hid h2
  have HU := Lib.hid hu
  clear hu h0 h1 h2
  have N := Lib.hid ((below_cube (w := w) (Nat.le_refl _) (objCb b)).alloc (below_cube (w := w) (Nat.le_refl _) (objCb b)).size (objO o))
  have sb := okSide_bd hb.1
  have pb := hb.2.1
  have r1 : wrap64 (b.pWest + b.pSide) = b.pWest + b.pSide := by unfold wrap64; omega
  have r2 : wrap64 (b.pWest + b.pSide - 1) = b.pWest + b.pSide - 1 := by unfold wrap64; omega
  have r3 : wrap64 (b.pSouth + b.pSide) = b.pSouth + b.pSide := by unfold wrap64; omega
  have r4 : wrap64 (b.pSouth + b.pSide - 1) = b.pSouth + b.pSide - 1 := by unfold wrap64; omega
  go_enter Try.func81, Try.ntmps81
  go_wp2_with fail
  refine (specIn _ _ _ b0 _ H0.out).mono ?_
  rintro e w' ⟨rfl, rfl⟩
  cases b0
  case false =>
    have HF : Hid (false = u) := Lib.hid (by rw [← HU.out]; simp)
    go_wp2
    go_ret
    exact ⟨ret_bool HF.out, N.out⟩
  go_wp2_with fail
  refine (specIn _ _ _ b1 _ H1.out).mono ?_
  rintro e w' ⟨rfl, rfl⟩
  cases b1
  case false =>
    have HF : Hid (false = u) := Lib.hid (by rw [← HU.out]; simp)
    go_wp2
    go_ret
    exact ⟨ret_bool HF.out, N.out⟩
  go_wp2_with fail
  refine (specIn _ _ _ b2 _ H2.out).mono ?_
  rintro e w' ⟨rfl, rfl⟩
  have HF : Hid (b2 = u) := Lib.hid (by rw [← HU.out]; simp)
  go_wp2
  go_ret
  exact ⟨ret_bool HF.out, N.out⟩
theorem askHo_bad {l : List GCube} {o : GOrigin} (h : goodOr o = false) : okHo l o = false := by unfold okHo askHo; rw [h]; simp
theorem askHo_many {l : List GCube} {o : GOrigin} (h : 64 < l.length) : okHo l o = false := by unfold okHo askHo; rw [decide_eq_false (show ¬ l.length ≤ 64 by omega)]; simp
theorem askHo_mk {l : List GCube} {o : GOrigin} (h : ∀ c ∈ l, okCb c) (ho : goodOr o = true) (hl : l.length ≤ 64) : askHo l o = true := by
  unfold askHo
  rw [List.all_eq_true.2 fun c hc => goodCb_mk (h c hc), ho, decide_eq_true hl]
  rfl
theorem all_at {l : List GCube} {P : GCube → Prop} (h : ∀ (j : Nat) b, j < l.length → l[j]? = some b → P b) : ∀ c ∈ l, P c := fun c hc => by
  obtain ⟨i, hi⟩ := List.mem_iff_getElem?.1 hc
  exact h i c (List.getElem?_eq_some_iff.1 hi).1 hi
set_option maxRecDepth 100000 in
set_option maxHeartbeats 4000000 in
theorem specHo (xs : List GCube) (v : Value) (o : GOrigin) (v2 : Value) (w : World) (B : Nat) (h : CubeL w B v xs) (h2 : OriginVL w B v2 o) (hB : B ≤ w.heap.size) (hn : szsCube xs ≤ 1048576) (_ : sz1Origin o ≤ 1048576) (hw : ∀ s ∈ xs, wfCube s) (hw2 : wfOrigin o) :
    Calls Try.prog 39 #[v, v2] w fun e w' => e = .returned (.tuple #[.int .i64 (numHo xs o), .bool (okHo xs o)]) ∧ Below w.heap.size w w' := by
  obtain rfl := h2.form
  clear h2
  have hl := Nat.le_trans (szsCube_len xs) hn
  obtain ⟨W0, hW0⟩ : ∃ W0, w.alloc (.cells #[.int .i64 o.pX, .int .i64 o.pY, .int .i64 o.pTick] 50) = W0 := ⟨_, rfl⟩
  have N0 : Below w.heap.size w W0 := hW0 ▸ (Below.refl w.heap.size w).alloc (Nat.le_refl _) _
  have bO : Bx W0 w.heap.size [.int .i64 o.pX, .int .i64 o.pY, .int .i64 o.pTick] := hW0 ▸ Bx.new w [.int .i64 o.pX, .int .i64 o.pY, .int .i64 o.pTick] 50
  have z0 := N0.size
  have h0 := h.below (N0.mono hB)
  have hB0 := Nat.le_trans hB z0
  obtain ⟨ao, cap, rfl, hcap, hmax, -, hc⟩ := h0
  unfold maxLen at hmax
  have HC := Lib.hid hc
  generalize hnum : numHo xs o = num
  generalize hok : okHo xs o = ok
  have HNO : Hid (okHo xs o = false → (0 : Int) = num ∧ false = ok) := Lib.hid (fun q => ⟨by rw [← hnum, numHo_no q], by rw [← hok, q]⟩)
  have HAT : Hid (∀ i : Nat, okHo xs o = true ∧ numHo xs o = (i : Int) → (i : Int) = num ∧ true = ok) := Lib.hid (fun i q => ⟨by rw [← hnum, q.2], by rw [← hok, q.1]⟩)
  clear hc hnum hok h
  go_enter Try.func39, Try.ntmps39
  go_wp2
  go_loopw [6] (fun i wr => ∃ k : Nat, k ≤ xs.length ∧ i = .int .i64 k ∧ Hid (∀ j b, j < k → xs[j]? = some b → okCb b) ∧ Below W0.heap.size W0 wr) (fun i _ => xs.length - (intOf i).toNat)
  case atStart => exact ⟨0, Nat.zero_le _, rfl, Lib.hid (fun j b hj => by omega), Below.refl _ _⟩
  case round =>
    obtain ⟨k, hk, rfl, HU, hbl⟩ := hrel
    have hsz := hbl.size
    by_cases hlt : k < xs.length
    case neg =>
      obtain rfl : k = xs.length := by omega
      have hall := Lib.hid (all_at HU.out)
      have bO1 := bO.below (hbl.mono (by have := bO.1; omega))
      have o0 := bO1.2 0 _ rfl
      have o1 := bO1.2 1 _ rfl
      have o2 := bO1.2 2 _ rfl
      cases ho : goodOr o with
      | false =>
        have CO := Lib.hid (specOrG o false wr ho)
        have HF := Lib.hid (HNO.out (askHo_bad ho))
        clear ho
        go_wp2_with fail
        refine CO.out.mono ?_
        rintro e w1 ⟨rfl, hb⟩
        go_wp2
        go_ret2
        exact ⟨retI HF.out.1 HF.out.2, N0.trans ((hbl.mono z0).trans (hb.mono (Nat.le_trans z0 hsz)))⟩
      | true =>
        have CO := Lib.hid (specOrG o true wr ho)
        have HO := Lib.hid ho
        clear ho
        go_wp2_with fail
        refine CO.out.mono ?_
        rintro e w1 ⟨rfl, hb⟩
        have hbo := hbl.trans (hb.mono hsz)
        have HM := Lib.hid hbo
        clear o0 o1 o2 bO1
        by_cases h64 : xs.length ≤ 64
        case neg =>
          have HF := Lib.hid (HNO.out (askHo_many (o := o) (show 64 < xs.length by omega)))
          have h65 : ¬ (xs.length : Int) ≤ 64 := by omega
          go_wp2
          go_ret2
          exact ⟨retI HF.out.1 HF.out.2, N0.trans (hbo.mono z0)⟩
        have h65 : (xs.length : Int) ≤ 64 := by omega
        have HK := Lib.hid (askHo_mk hall.out HO.out h64)
        go_wp2
        go_loopw [7] (fun i wr => ∃ k : Nat, k ≤ xs.length ∧ i = .int .i64 k ∧ Hid (∀ (j : Nat) b, j < k → xs[j]? = some b → holdsC b o = false) ∧ Below W0.heap.size W0 wr) (fun i _ => xs.length - (intOf i).toNat)
        case atStart => exact ⟨0, Nat.zero_le _, rfl, Lib.hid (fun j b hj => by omega), HM.out⟩
        case round =>
          clear hbl hsz hb hbo HM HU hlt hk
          obtain ⟨k, hk, rfl, HU, hbl⟩ := hrel
          have hsz := hbl.size
          by_cases hlt : k < xs.length
          case neg =>
            obtain rfl : k = xs.length := by omega
            have HF := Lib.hid (HNO.out (okHo_none (all_at HU.out)))
            go_wp2
            go_ret2
            exact ⟨retI HF.out.1 HF.out.2, N0.trans (hbl.mono z0)⟩
          have hk0 : (0 : Int) ≤ (k : Int) := by omega
          have hk1 : (k : Int) < (xs.length : Int) := by omega
          obtain ⟨a, ha⟩ := get_of_lt hlt
          obtain ⟨b, off, rfl, hb, hcell⟩ := HC.out k a ha
          have c0 : wr.cell? ⟨b, off + k * 5, none⟩ = some (.int .i64 a.pWest) := cellOf hbl (by omega) (hcell 0 _ rfl)
          have c1 : wr.cell? ⟨b, off + k * 5 + 1, none⟩ = some (.int .i64 a.pSouth) := cellOf hbl (by omega) (hcell 1 _ rfl)
          have c2 : wr.cell? ⟨b, off + k * 5 + 2, none⟩ = some (.int .i64 a.pSide) := cellOf hbl (by omega) (hcell 2 _ rfl)
          have c3 : wr.cell? ⟨b, off + k * 5 + 3, none⟩ = some (.int .i64 a.pFrom) := cellOf hbl (by omega) (hcell 3 _ rfl)
          have c4 : wr.cell? ⟨b, off + k * 5 + 4, none⟩ = some (.int .i64 a.pTo) := cellOf hbl (by omega) (hcell 4 _ rfl)
          have bO1 := bO.below (hbl.mono (by have := bO.1; omega))
          have o0 := bO1.2 0 _ rfl
          have o1 := bO1.2 1 _ rfl
          have o2 := bO1.2 2 _ rfl
          have HA := Lib.hid ha
          have hoa := hall.out a (List.mem_of_getElem? ha)
          clear ha hcell
          cases h1 : holdsC a o with
          | false =>
            have HU2 : Hid (∀ (j : Nat) b, j < k + 1 → xs[j]? = some b → holdsC b o = false) := Lib.hid (fun j b hj hjb => by
              by_cases q : j < k
              · exact HU.out j b q hjb
              · obtain rfl : j = k := by omega
                rw [HA.out] at hjb
                cases hjb
                exact h1)
            have C1 := Lib.hid (fun W => specInCb a o false W hoa h1)
            clear h1 hoa
            have cs := fun d os => Calls.regrown_of (w := wr) (d := d) (os := os) (C1.out _)
            have rd0 := cell_regrown c0
            have rd1 := cell_regrown c1
            have rd2 := cell_regrown c2
            have rd3 := cell_regrown c3
            have rd4 := cell_regrown c4
            have ro0 := cell_regrown o0
            have ro1 := cell_regrown o1
            have ro2 := cell_regrown o2
            clear c0 c1 c2 c3 c4 o0 o1 o2
            go_wp2_with fail
            refine wp_region_quiet_below (by kernel_rfl) (by kernel_rfl) ?_
            repeat (go_big_quiet_step (first | with_reducible exact cs _ _))
            refine wpQuiet_nil ?_
            intro _ hw'
            obtain ⟨⟨dq, osq⟩, hw''⟩ := hw'
            subst hw''
            have hb4 := below_regrown (wr) dq osq
            generalize grow (redrawn (wr) dq) osq = w4 at *
            go_wp2
            go_roundw
            case rel => exact ⟨k + 1, by omega, by go_num, HU2, hbl.trans (hb4.mono hsz)⟩
            case measure => simp [intOf]; omega
          | true =>
            have HF := Lib.hid (HAT.out k (numHo_at HK.out HA.out h1 HU.out))
            have C1 := Lib.hid (fun W => specInCb a o true W hoa h1)
            clear h1 hoa
            have cs := fun d os => Calls.regrown_of (w := wr) (d := d) (os := os) (C1.out _)
            have rd0 := cell_regrown c0
            have rd1 := cell_regrown c1
            have rd2 := cell_regrown c2
            have rd3 := cell_regrown c3
            have rd4 := cell_regrown c4
            have ro0 := cell_regrown o0
            have ro1 := cell_regrown o1
            have ro2 := cell_regrown o2
            clear c0 c1 c2 c3 c4 o0 o1 o2
            go_wp2_with fail
            refine wp_region_quiet_below (by kernel_rfl) (by kernel_rfl) ?_
            repeat (go_big_quiet_step (first | with_reducible exact cs _ _))
            refine wpQuiet_nil ?_
            intro _ hw'
            obtain ⟨⟨dq, osq⟩, hw''⟩ := hw'
            subst hw''
            have hb4 := below_regrown (wr) dq osq
            generalize grow (redrawn (wr) dq) osq = w4 at *
            go_wp2
            go_ret2
            exact ⟨retI HF.out.1 HF.out.2, N0.trans ((hbl.mono z0).trans (hb4.mono (Nat.le_trans z0 hsz)))⟩
    have hk0 : (0 : Int) ≤ (k : Int) := by omega
    have hk1 : (k : Int) < (xs.length : Int) := by omega
    have hk2 : (k : Int) ≤ 1048576 := by omega
    obtain ⟨a, ha⟩ := get_of_lt hlt
    obtain ⟨b, off, rfl, hb, hcell⟩ := HC.out k a ha
    have c0 : wr.cell? ⟨b, off + k * 5, none⟩ = some (.int .i64 a.pWest) := cellOf hbl (by omega) (hcell 0 _ rfl)
    have c1 : wr.cell? ⟨b, off + k * 5 + 1, none⟩ = some (.int .i64 a.pSouth) := cellOf hbl (by omega) (hcell 1 _ rfl)
    have c2 : wr.cell? ⟨b, off + k * 5 + 2, none⟩ = some (.int .i64 a.pSide) := cellOf hbl (by omega) (hcell 2 _ rfl)
    have c3 : wr.cell? ⟨b, off + k * 5 + 3, none⟩ = some (.int .i64 a.pFrom) := cellOf hbl (by omega) (hcell 3 _ rfl)
    have c4 : wr.cell? ⟨b, off + k * 5 + 4, none⟩ = some (.int .i64 a.pTo) := cellOf hbl (by omega) (hcell 4 _ rfl)
    have HA := Lib.hid ha
    clear ha hcell
    cases h1 : goodCb a with
    | false =>
      have HF := Lib.hid (HNO.out (okHo_bad (List.mem_of_getElem? HA.out) (fun g => by rw [goodCb_mk g] at h1; cases h1)))
      have C1 := Lib.hid (fun W => specGoodCb a false W h1)
      clear h1
      go_wp2_with fail
      refine (C1.out _).mono ?_
      rintro e w4 ⟨rfl, hb4⟩
      clear c0 c1 c2 c3 c4
      go_wp2
      go_ret2
      exact ⟨retI HF.out.1 HF.out.2, N0.trans ((hbl.mono z0).trans (hb4.mono (Nat.le_trans z0 hsz)))⟩
    | true =>
      have HU2 : Hid (∀ j b, j < k + 1 → xs[j]? = some b → okCb b) := Lib.hid (fun j b hj hjb => by
        by_cases q : j < k
        · exact HU.out j b q hjb
        · obtain rfl : j = k := by omega
          rw [HA.out] at hjb
          cases hjb
          exact goodCb_yes h1)
      have C1 := Lib.hid (fun W => specGoodCb a true W h1)
      clear h1
      go_wp2_with fail
      refine (C1.out _).mono ?_
      rintro e w4 ⟨rfl, hb4⟩
      clear c0 c1 c2 c3 c4
      go_wp2
      go_roundw
      case rel => exact ⟨k + 1, by omega, by go_num, HU2, hbl.trans (hb4.mono hsz)⟩
      case measure => simp [intOf]; omega
end Go.Proofs.Ytoogofceoinniaa
