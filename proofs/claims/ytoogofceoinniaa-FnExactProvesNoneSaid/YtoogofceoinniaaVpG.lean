/- Votes: the program's ticks at a place; who is left. -/
import Derived.Test.YtoogofceoinniaaVpF
import Derived.Test.YtoogofceoinniaaVoI
namespace Go.Proofs.Ytoogofceoinniaa
open Go.ChangeShapes Go.WideShapes Go.ChangeAt Go.RowKit Go.ChangeMaps Go.Sort Go.Shelf
set_option linter.unusedSimpArgs false
set_option linter.unusedVariables false
theorem restV_keep (xs : List GArrival) (o : GOrigin) : keepP (fitV · o) xs = restV xs o := rfl
set_option maxRecDepth 100000 in
set_option maxHeartbeats 2000000 in
/-- Who is left, of a clone. -/
theorem implRest (xs : List GArrival) (v : Value) (o : GOrigin) (w : World) (B : Nat) (h : ArrivalL w B v xs) (hB : B ≤ w.heap.size) (hok : okArs xs) (ho : okOr o) :
    Calls Try.prog 77 #[v, aggO o] w fun e w' => ∃ v', e = .returned v' ∧ ArrivalO w' w.heap.size w'.heap.size v' (restV xs o) ∧ Below w.heap.size w w' := by
  have hl8 := hok.2
  obtain ⟨W0, hW0⟩ : ∃ W0, w.alloc (.cells #[.int .i64 o.pX, .int .i64 o.pY, .int .i64 o.pTick] 50) = W0 := ⟨_, rfl⟩
  have N0 : Below w.heap.size w W0 := hW0 ▸ (Below.refl w.heap.size w).alloc (Nat.le_refl _) _
  have bO : Bx W0 w.heap.size [.int .i64 o.pX, .int .i64 o.pY, .int .i64 o.pTick] := hW0 ▸ Bx.new w [.int .i64 o.pX, .int .i64 o.pY, .int .i64 o.pTick] 50
  have z0 := N0.size
  have CC := Lib.hid (fun W (q : Below W0.heap.size W0 W) => cloneArrival xs v W B (h.below ((N0.trans (q.mono z0)).mono hB)) (Nat.le_trans hB (Nat.le_trans z0 q.size)) (by omega))
  have CF := Lib.hid (fun W => implFitted o W)
  have CD : Hid (∀ (W : World) (L bo : Nat) (v : Value), ArrivalO W L W.heap.size v xs → Bx W bo [.int .i64 o.pX, .int .i64 o.pY, .int .i64 o.pTick] → W0.heap.size ≤ L → L ≤ W.heap.size → (∀ b off cap, 0 < xs.length → v = .slice (some ⟨b, off, none⟩) xs.length cap → b ≠ bo) → Calls Try.prog 106 #[v, .func (.func 130) #[] #[.pointer (some ⟨bo, 0, none⟩)]] W fun e w' => ∃ v', e = .returned v' ∧ ArrivalO w' W0.heap.size w'.heap.size v' (restV xs o) ∧ Below W0.heap.size W w') := Lib.hid (fun W L bo v hown bx hL0 hL hne =>
    (delFn okAr (fun W => Bx W bo [.int .i64 o.pX, .int .i64 o.pY, .int .i64 o.pTick]) (fitV · o) 130 #[.pointer (some ⟨bo, 0, none⟩)] fit_enters xs v W L hown hL (by omega) (fun W2 s hs q => cloFit s o bo _ W2 hs ho q rfl) (fun s hs => okArs_mem hok hs) (fun _ _ hi q => hi.below q) bx (fun W2 b off cap o2 u h0 e hi => hi.setOther (hne b off cap h0 e) u)).mono fun e w' hh => by
      obtain ⟨v', e1, h1, h2⟩ := hh
      exact ⟨v', e1, h1.mono hL0 (Nat.le_refl _), h2.mono hL0⟩)
  obtain ⟨ao, cap, rfl⟩ := h.form
  have HS0 : Hid (∀ w', Below W0.heap.size W0 w' → Below W0.heap.size W0 w' ∧ w'.cell? ⟨w.heap.size, 0, none⟩ = some (.int .i64 o.pX) ∧ w'.cell? ⟨w.heap.size, 1, none⟩ = some (.int .i64 o.pY) ∧ w'.cell? ⟨w.heap.size, 2, none⟩ = some (.int .i64 o.pTick)) := Lib.hid (fun w' q => ⟨q, (bO.below q).2 0 _ rfl, (bO.below q).2 1 _ rfl, (bO.below q).2 2 _ rfl⟩)
  have o0 := bO.2 0 _ rfl
  have o1 := bO.2 1 _ rfl
  have o2 := bO.2 2 _ rfl
  have D0 : Below W0.heap.size W0 W0.drew := (Below.refl _ _).drew
  clear h hok ho
  go_enter Try.func77, Try.ntmps77
  go_wp2_with fail
  clear hW0
  go_region_held3 (fun w' => Below W0.heap.size W0 w' ∧ w'.cell? ⟨w.heap.size, 0, none⟩ = some (.int .i64 o.pX) ∧ w'.cell? ⟨w.heap.size, 1, none⟩ = some (.int .i64 o.pY) ∧ w'.cell? ⟨w.heap.size, 2, none⟩ = some (.int .i64 o.pTick))
    (first
      | exact HS0.out _ (Below.refl _ _).drew
      | exact HS0.out _ hq3
      | exact HS0.out _ hq2
      | exact HS0.out _ hq1)
    (first
      | (go_at_call 107; first
          | ((with_reducible refine (CC.out W0.drew D0).mono ?_); rintro e w1 ⟨v1, rfl, hown, hb⟩; have hq1 := D0.trans (hb.mono D0.size); have hLz : W0.heap.size ≤ W0.drew.heap.size := Nat.le_refl _; obtain ⟨ao1, cap1, rfl⟩ := hown.form)
          | ((with_reducible refine (CC.out w1 hq1).mono ?_); rintro e w2 ⟨v1, rfl, hown, hb⟩; have hq2 := hq1.trans (hb.mono hq1.size); have bx := bx1.below hb; have hne : ∀ b off cap, 0 < xs.length → v1 = .slice (some ⟨b, off, none⟩) xs.length cap → b ≠ bo := (fun b off cap h0 e => by subst e; have := hown.apart b off rfl h0; have := bx1.1.1; omega); have hLz := hq1.size; have hLw := hb.size; obtain ⟨ao1, cap1, rfl⟩ := hown.form))
      | (go_at_call 108; first
          | ((with_reducible refine (CF.out W0.drew).mono ?_); rintro e w1 ⟨bo, rfl, bx1, hbb, hb⟩; have hq1 := D0.trans (hb.mono D0.size))
          | ((with_reducible refine (CF.out w1).mono ?_); rintro e w2 ⟨bo, rfl, bx, hbb, hb2⟩; have hq2 := hq1.trans (hb2.mono hq1.size); have hne : ∀ b off cap, 0 < xs.length → Value.slice ao1 xs.length cap1 = .slice (some ⟨b, off, none⟩) xs.length cap → b ≠ bo := (fun b off cap h0 e => by simp only [Value.slice.injEq] at e; have := hown.apart b off e.1 h0; omega); have hLw : W0.drew.heap.size ≤ w2.heap.size := hq2.size; have hown := (hown.below hb2).mono (Nat.le_refl _) hb2.size))
      | (go_at_call 106; (with_reducible refine (CD.out _ _ bo _ hown bx hLz hLw hne).mono ?_); rintro e w3 ⟨v3, rfl, hown3, hb3⟩; have hq3 := hq2.trans hb3))
  all_goals (obtain ⟨ao3, cap3, rfl⟩ := hown3.form; go_wp2; go_ret)
  all_goals exact ⟨_, rfl, hown3.mono z0 (Nat.le_refl _), N0.trans (hq3.mono z0)⟩
end Go.Proofs.Ytoogofceoinniaa
