/- Votes: the specification's most votes at a place. -/
import Derived.Test.YtoogofceoinniabVoG
namespace Go.Proofs.Ytoogofceoinniab
open Go.ChangeShapes Go.WideShapes Go.ChangeAt Go.RowKit Go.ChangeMaps Go.Sort
set_option linter.unusedSimpArgs false
set_option linter.unusedVariables false
set_option linter.unusedSimpArgs false
set_option linter.unusedVariables false

theorem stepV_gap {xs : List GArrival} {x y : Int} {b : Int × Int} {a : GArrival} (h : ¬ loT a x y ≤ hiT a x y) : stepV xs x y b a = b := by unfold stepV; rw [if_neg h]
theorem stepV_up {xs : List GArrival} {x y : Int} {b : Int × Int} {a : GArrival} {n l : Int} (h : loT a x y ≤ hiT a x y) (hl : loT a x y = l) (hn : ((votV xs ⟨x, y, l⟩).length : Int) = n) (hb : b.1 < n ∨ n = b.1 ∧ l < b.2) : stepV xs x y b a = (n, l) := by
  unfold stepV
  rw [if_pos h, hl, hn, if_pos hb]
theorem stepV_no {xs : List GArrival} {x y : Int} {b : Int × Int} {a : GArrival} {n l : Int} (h : loT a x y ≤ hiT a x y) (hl : loT a x y = l) (hn : ((votV xs ⟨x, y, l⟩).length : Int) = n) (hb : ¬ (b.1 < n ∨ n = b.1 ∧ l < b.2)) : stepV xs x y b a = b := by
  unfold stepV
  rw [if_pos h, hl, hn, if_neg hb]
set_option maxRecDepth 100000 in
set_option maxHeartbeats 4000000 in
theorem specMost (xs : List GArrival) (v : Value) (x y m t : Int) (w : World) (B : Nat) (h : ArrivalL w B v xs) (hB : B ≤ w.heap.size) (hok : okArs xs) (hx : 0 ≤ x ∧ x ≤ 999) (hy : 0 ≤ y ∧ y ≤ 999) (hm : (mostV xs x y xs.length).1 = m) (ht : (mostV xs x y xs.length).2 = t) :
    Calls Try.prog 72 #[v, .int .i64 x, .int .i64 y] w fun e w' => e = .returned (.tuple #[.int .i64 m, .int .i64 t]) ∧ Below w.heap.size w w' := by
  have HL := Lib.hid h
  have HOK := Lib.hid hok
  have HM := Lib.hid hm
  have HT := Lib.hid ht
  have hl8 := hok.2
  have HX := Lib.hid hx
  have HY := Lib.hid hy
  obtain ⟨ao, cap, rfl, hcap, hmax, -, hc⟩ := h
  unfold maxLen at hmax
  have HC := Lib.hid hc
  clear hc hok hx hy hm ht
  go_enter Try.func72, Try.ntmps72
  go_wp2
  go_loopw [8, 9, 10] (fun p q i wr => ∃ (k : Nat) (b : Int × Int), k ≤ xs.length ∧ i = .int .i64 k ∧ p = .int .i64 b.1 ∧ q = .int .i64 b.2 ∧ Hid (mostV xs x y k = b) ∧ Below w.heap.size w wr)
    (fun _ _ i _ => xs.length - (intOf i).toNat)
  case atStart => exact ⟨0, (0, 0), Nat.zero_le _, rfl, rfl, rfl, Lib.hid rfl, Below.refl _ _⟩
  case round =>
    obtain ⟨k, ⟨b1, b2⟩, hk, rfl, rfl, rfl, HB, hbl⟩ := hrel
    have hsz := hbl.size
    by_cases hlt : k < xs.length
    case neg =>
      obtain rfl : k = xs.length := by omega
      have HE1 : Hid (b1 = m) := Lib.hid (by rw [← HM.out, HB.out])
      have HE2 : Hid (b2 = t) := Lib.hid (by rw [← HT.out, HB.out])
      go_wp2
      go_ret2
      exact ⟨ret2i HE1.out HE2.out, hbl⟩
    have hk0 : (0 : Int) ≤ (k : Int) := by omega
    have hk1 : (k : Int) < (xs.length : Int) := by omega
    obtain ⟨a, ha⟩ := get_of_lt hlt
    have hoka := okArs_mem HOK.out (List.mem_of_getElem? ha)
    obtain ⟨b, off, rfl, hb, hcell⟩ := HC.out k a ha
    have c0 : wr.cell? ⟨b, off + k * 5, none⟩ = some (.int .i64 a.pId) := cellOf hbl (by omega) (hcell 0 _ rfl)
    have c1 : wr.cell? ⟨b, off + k * 5 + 1, none⟩ = some (.int .i64 a.pX) := cellOf hbl (by omega) (hcell 1 _ rfl)
    have c2 : wr.cell? ⟨b, off + k * 5 + 2, none⟩ = some (.int .i64 a.pY) := cellOf hbl (by omega) (hcell 2 _ rfl)
    have c3 : wr.cell? ⟨b, off + k * 5 + 3, none⟩ = some (.int .i64 a.pTick) := cellOf hbl (by omega) (hcell 3 _ rfl)
    have c4 : wr.cell? ⟨b, off + k * 5 + 4, none⟩ = some (.int .i64 a.pError) := cellOf hbl (by omega) (hcell 4 _ rfl)
    have HS := Lib.hid (mostV_succ ha x y)
    have HBD := mostV_bd HOK.out HX.out HY.out k hk
    rw [HB.out] at HBD HS
    obtain ⟨⟨bb0, bb1⟩, ⟨bb2, bb3⟩⟩ := HBD
    obtain ⟨⟨l0, l1⟩, ⟨g0, g1⟩⟩ := ticks_bd hoka HX.out HY.out
    obtain ⟨l, hl⟩ : ∃ l, loT a x y = l := ⟨_, rfl⟩
    obtain ⟨g, hg⟩ : ∃ g, hiT a x y = g := ⟨_, rfl⟩
    rw [hl] at l0 l1
    rw [hg] at g0 g1
    have CT := Lib.hid (fun W => specTicks a x y l g W hoka HX.out HY.out hl hg)
    have HLo := Lib.hid hl
    have HHi := Lib.hid hg
    clear ha hcell hoka hl hg
    go_wp2_with fail
    refine (CT.out _).mono ?_
    rintro e w1 ⟨rfl, hb1⟩
    have N1 := hbl.trans (hb1.mono hsz)
    clear hb1 c0 c1 c2 c3 c4
    by_cases hle : l ≤ g
    case neg =>
      have HB2 : Hid (mostV xs x y (k + 1) = (b1, b2)) := Lib.hid (by rw [HS.out]; exact stepV_gap (by rw [HLo.out, HHi.out]; exact hle))
      have hle' : g < l := by omega
      go_wp2
      go_roundw
      case rel => exact ⟨k + 1, (b1, b2), by omega, by go_num, rfl, rfl, HB2, N1⟩
      case measure => simp [intOf]; omega
    have HLE : Hid (loT a x y ≤ hiT a x y) := Lib.hid (by rw [HLo.out, HHi.out]; exact hle)
    have CV := Lib.hid (fun W (q : Below w.heap.size w W) => specVoters xs _ ⟨x, y, l⟩ W B (HL.out.below (q.mono hB)) (Nat.le_trans hB q.size) HOK.out ⟨⟨HX.out, HY.out⟩, l0, l1⟩)
    obtain ⟨n, hn⟩ : ∃ n, (votV xs ⟨x, y, l⟩).length = n := ⟨_, rfl⟩
    have hn8 : n ≤ 8 := by have := votV_len xs ⟨x, y, l⟩; omega
    have HN := Lib.hid hn
    have hle' : ¬ g < l := by omega
    clear hn
    go_wp2_with fail
    refine (CV.out _ N1).mono ?_
    rintro e w2 ⟨v2, rfl, hown, hb2⟩
    have N2 := N1.trans (hb2.mono N1.size)
    obtain ⟨ao2, cap2, rfl⟩ := hown.form
    rw [HN.out]
    clear hown hb2 hle
    by_cases h1 : b1 < (n : Int)
    case pos =>
      have HB2 : Hid (mostV xs x y (k + 1) = ((n : Int), l)) := Lib.hid (by rw [HS.out]; exact stepV_up HLE.out HLo.out (by rw [HN.out]) (Or.inl h1))
      go_wp2
      go_roundw
      case rel => exact ⟨k + 1, ((n : Int), l), by omega, by go_num, rfl, rfl, HB2, N2⟩
      case measure => simp [intOf]; omega
    have HH1 := Lib.hid h1
    by_cases h2 : (n : Int) = b1
    case neg =>
      have HB2 : Hid (mostV xs x y (k + 1) = (b1, b2)) := Lib.hid (by rw [HS.out]; exact stepV_no HLE.out HLo.out (by rw [HN.out]) (fun z => z.elim h1 (fun z => h2 z.1)))
      go_wp2
      go_roundw
      case rel => exact ⟨k + 1, (b1, b2), by omega, by go_num, rfl, rfl, HB2, N2⟩
      case measure => simp [intOf]; omega
    by_cases h3 : l < b2
    case pos =>
      have HB2 : Hid (mostV xs x y (k + 1) = (b1, l)) := Lib.hid (by rw [HS.out, ← h2]; exact stepV_up HLE.out HLo.out (by rw [HN.out]) (Or.inr ⟨rfl, h3⟩))
      go_wp2
      go_roundw
      case rel => exact ⟨k + 1, (b1, l), by omega, by go_num, rfl, rfl, HB2, N2⟩
      case measure => simp [intOf]; omega
    case neg =>
      have HB2 : Hid (mostV xs x y (k + 1) = (b1, b2)) := Lib.hid (by rw [HS.out]; exact stepV_no HLE.out HLo.out (by rw [HN.out]) (fun z => z.elim h1 (fun z => h3 z.2)))
      go_wp2
      go_roundw
      case rel => exact ⟨k + 1, (b1, b2), by omega, by go_num, rfl, rfl, HB2, N2⟩
      case measure => simp [intOf]; omega
set_option maxRecDepth 100000 in
set_option maxHeartbeats 2000000 in
theorem specMv (xs : List GArrival) (v : Value) (x y : Int) (w : World) (B : Nat) (h : ArrivalL w B v xs) (hB : B ≤ w.heap.size) (hn : szsArrival xs ≤ 1048576) (hw : ∀ s ∈ xs, wfArrival s) (_ : I64 x) (_ : I64 y) :
    Calls Try.prog 30 #[v, .int .i64 x, .int .i64 y] w fun e w' => e = .returned (.tuple #[.int .i64 (numMv xs x y), .int .i64 (atMv xs x y), .bool (okMv xs x y)]) ∧ Below w.heap.size w w' := by
  have hl := Nat.le_trans (szsArrival_len xs) hn
  have CP := Lib.hid (fun u W hu => specPlace x y u W hu)
  cases h1 : goodAr xs with
  | false =>
    have C1 := Lib.hid (specGoodA xs v false w B h hB hl h1)
    have HF := Lib.hid (noMv (xs := xs) (x := x) (y := y) (by unfold askMv; rw [h1]; rfl))
    obtain ⟨ao, cap, rfl⟩ := h.form
    clear h h1
    go_enter Try.func30, Try.ntmps30
    go_wp2_with fail
    refine C1.out.mono ?_
    rintro e w1 ⟨rfl, hb⟩
    go_wp2
    go_ret3
    exact ⟨HF.out, hb⟩
  | true =>
  have C1 := Lib.hid (specGoodA xs v true w B h hB hl h1)
  cases h2 : plcB x y with
  | false =>
    have C2 := Lib.hid (fun W => CP.out false W h2)
    have HF := Lib.hid (noMv (xs := xs) (x := x) (y := y) (by unfold askMv; rw [h2, Bool.and_false]))
    obtain ⟨ao, cap, rfl⟩ := h.form
    clear h h1 h2
    go_enter Try.func30, Try.ntmps30
    go_wp2_with fail
    refine C1.out.mono ?_
    rintro e w1 ⟨rfl, hb⟩
    go_wp2_with fail
    refine (C2.out _).mono ?_
    rintro e w2 ⟨rfl, q2⟩
    subst q2
    go_wp2
    go_ret3
    exact ⟨HF.out, hb⟩
  | true =>
  have C2 := Lib.hid (fun W => CP.out true W h2)
  have hask : askMv xs x y = true := by unfold askMv; rw [h1, h2]; rfl
  obtain ⟨hok, hx, hy⟩ := askMv_yes hask
  obtain ⟨m, hm⟩ : ∃ m, (mostV xs x y xs.length).1 = m := ⟨_, rfl⟩
  obtain ⟨t, ht⟩ : ∃ t, (mostV xs x y xs.length).2 = t := ⟨_, rfl⟩
  have CM := Lib.hid (fun W (q : Below w.heap.size w W) => specMost xs v x y m t W B (h.below (q.mono hB)) (Nat.le_trans hB q.size) hok hx hy hm ht)
  have HF := Lib.hid (fun u hu => yesMv (u := u) hask hm ht hu)
  obtain ⟨ao, cap, rfl⟩ := h.form
  clear h h1 h2 hask hok hx hy hm ht
  go_enter Try.func30, Try.ntmps30
  go_wp2_with fail
  refine C1.out.mono ?_
  rintro e w1 ⟨rfl, hb⟩
  go_wp2_with fail
  refine (C2.out _).mono ?_
  rintro e w2 ⟨rfl, q2⟩
  subst q2
  go_wp2_with fail
  refine (CM.out _ hb).mono ?_
  rintro e w3 ⟨rfl, hb3⟩
  go_wp2
  go_ret3
  exact ⟨HF.out _ rfl, hb.trans (hb3.mono hb.size)⟩
end Go.Proofs.Ytoogofceoinniab
