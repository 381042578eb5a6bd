/- Triggers: the specification's functions. -/
import Derived.Test.YtklilfbokpljkabTgD
namespace Go.Proofs.Ytklilfbokpljkab
open Go.ChangeShapes Go.WideShapes Go.ChangeAt Go.RowKit Go.ChangeMaps
set_option linter.unusedSimpArgs false
set_option linter.unusedVariables false
set_option linter.unusedSimpArgs false
set_option linter.unusedVariables false

set_option maxRecDepth 100000 in
set_option maxHeartbeats 2000000 in
theorem specRa (xs : List Int) (v : Value) (s : GSetting) (v2 : Value) (p : Int) (w : World) (B : Nat) (h : Lst (Value.int .i64) w B v xs) (h2 : SettingVL w B v2 s) (hB : B ≤ w.heap.size) (hn : xs.length ≤ 1048576) (_ : sz1Setting s ≤ 1048576) (hw : wfSetting s) (_ : I64 p) :
    Calls Try.prog 32 #[v, v2, .int .i64 p] w fun e w' => e = .returned (.tuple #[.int .i64 (numRa xs s p), .int .i64 (denRa xs s p), .bool (okRa xs s p)]) ∧ Below w.heap.size w w' := by
  obtain rfl := h2.form
  clear h2
  have N1 := (Below.refl w.heap.size w).alloc (Nat.le_refl _) (.cells #[.int .i64 s.pShort, .int .i64 s.pLong, .int .i64 s.pOn, .int .i64 s.pOff] 28)
  have bx := Bx.new w [.int .i64 s.pShort, .int .i64 s.pLong, .int .i64 s.pOn, .int .i64 s.pOff] 28
  have C := Lib.hid (fun u hu => specAskT xs v s u _ B (h.below (N1.mono hB)) (Nat.le_trans hB N1.size) hw hu)
  cases hg : goodTg xs s with
  | false =>
    have HF := Lib.hid (noRa (xs := xs) (s := s) (p := p) (by unfold okRa; rw [hg]; rfl))
    have CA := Lib.hid (C.out false hg)
    obtain ⟨ao, cap, rfl⟩ := h.form
    clear h C hg
    go_enter Try.func32, Try.ntmps32
    go_wp2_with fail
    refine CA.out.mono ?_
    rintro e w1 ⟨rfl, hb⟩
    go_wp2
    go_ret3
    exact ⟨HF.out, N1.trans (hb.mono N1.size)⟩
  | true =>
    have CA := Lib.hid (C.out true hg)
    obtain ⟨hx, hs⟩ := goodTg_yes hg
    have hl24 := (okL_yes hx).2
    by_cases hp : s.pLong - 1 ≤ p ∧ p ≤ (xs.length : Int) - 1
    case neg =>
      have HF := Lib.hid (noRa (xs := xs) (s := s) (p := p) (by unfold okRa; rw [decide_eq_false hp, Bool.and_false]))
      have CI := Lib.hid (fun W => inNo p (s.pLong - 1) ((xs.length : Int) - 1) W hp)
      obtain ⟨⟨a1, a2⟩, ⟨b1, b2⟩, -, -⟩ := hs
      obtain ⟨ao, cap, rfl⟩ := h.form
      clear h C hg hp
      go_enter Try.func32, Try.ntmps32
      go_wp2_with fail
      refine CA.out.mono ?_
      rintro e w1 ⟨rfl, hb⟩
      have bx1 := bx.below hb
      have c1 := bx1.2 1 _ rfl
      go_wp2_with fail
      refine (CI.out _).mono ?_
      rintro e w9 ⟨rfl, rfl⟩
      go_wp2
      go_ret3
      exact ⟨HF.out, N1.trans (hb.mono N1.size)⟩
    have HOK : Hid (okRa xs s p = true) := Lib.hid (by unfold okRa; rw [hg, decide_eq_true hp]; rfl)
    obtain ⟨k, rfl⟩ : ∃ k : Nat, p = (k : Int) := ⟨p.toNat, by have := hs.1; have := hs.2.1; omega⟩
    have hlt : k < xs.length := by omega
    have CI := Lib.hid (fun W => inYes (k : Int) (s.pLong - 1) ((xs.length : Int) - 1) W hp)
    have CR := Lib.hid (fun W (q : Below w.heap.size w W) => specRatT xs v s k _ _ W B (h.below (q.mono hB)) (Nat.le_trans hB q.size) hx hs (by omega) hlt rfl rfl)
    obtain ⟨⟨n0, n1⟩, e0, e1⟩ := nT_bd (okL_yes hx).1 hs (p := k) (by omega) hlt
    have HF := Lib.hid (fun a b ha hb => yesRa (a := a) (b := b) HOK.out ha hb)
    rw [Int.toNat_natCast] at HF
    generalize nT xs s k = n at *
    generalize dT xs s k = d at *
    have CD := Lib.hid (fun W => specRed n d W (by omega) (by omega) e0 (by omega))
    have HF2 := Lib.hid (HF.out _ _ rfl rfl)
    generalize hnn : numR n d = nn at *
    generalize hdd : denR n d = dd at *
    obtain ⟨⟨a1, a2⟩, ⟨b1, b2⟩, -, -⟩ := hs
    obtain ⟨ao, cap, rfl⟩ := h.form
    clear h C hg hp hx HF HOK
    go_enter Try.func32, Try.ntmps32
    go_wp2_with fail
    refine CA.out.mono ?_
    rintro e w1 ⟨rfl, hb⟩
    have bx1 := bx.below hb
    have B1 := N1.trans (hb.mono N1.size)
    clear hb bx N1
    have c0 := bx1.2 0 _ rfl
    have c1 := bx1.2 1 _ rfl
    have c2 := bx1.2 2 _ rfl
    have c3 := bx1.2 3 _ rfl
    go_wp2_with fail
    refine (CI.out _).mono ?_
    rintro e w9 ⟨rfl, rfl⟩
    go_wp2_with fail
    refine (CR.out _ B1).mono ?_
    rintro e w2 ⟨rfl, hb⟩
    have B2 := B1.trans (hb.mono B1.size)
    clear c0 c1 c2 c3 bx1 hb
    go_wp2_with fail
    refine (CD.out _).mono ?_
    rintro e w3 ⟨rfl, hdr⟩
    rw [hnn, hdd]
    clear hnn hdd
    go_wp2
    go_ret3
    exact ⟨HF2.out, B2.trans (hdr.below _)⟩
end Go.Proofs.Ytklilfbokpljkab
