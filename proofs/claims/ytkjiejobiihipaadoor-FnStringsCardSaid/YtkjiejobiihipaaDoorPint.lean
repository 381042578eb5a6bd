/- FnExactParseInt: for every string the law answers true, where the listed variables hold what the program's text lays. -/
import Derived.Test.YtkjiejobiihipaaDoorRead
namespace Go.Proofs.YtkjiejobiihipaaDoor
open Go.ChangeShapes Go.WideShapes Go.ChangeAt Go.RowKit Go.ChangeMaps
open fnExactFormatInt (okN resN resN_yes resN_no l1In_any implFormat)

theorem parse_digs : ∀ (l : List UInt8) (acc k : Nat), digs l = true → acc < 10 ^ k → k + l.length ≤ 12 → Lib.parseUint10 acc l = .ok (l.foldl (fun n c => 10 * n + (c.toNat - 48)) acc) := by
  intro l
  induction l with
  | nil => intro acc k _ _ _; rfl
  | cons c r ih =>
    intro acc k hd ha hk
    have hd2 : isDig c = true ∧ digs r = true := by simpa [digs] using hd
    have hc : 48 ≤ c.toNat ∧ c.toNat ≤ 57 := of_decide_eq_true hd2.1
    have h12 : (10 : Nat) ^ k ≤ 10 ^ 12 := Nat.pow_le_pow_right (by omega) (by omega)
    have h12' : (10 : Nat) ^ 12 = 1000000000000 := by decide
    have hlen : (c :: r).length = r.length + 1 := rfl
    have e : acc * 10 + (c.toNat - 48) = 10 * acc + (c.toNat - 48) := by omega
    rw [Lib.parseUint10, if_pos hc, if_neg (by omega), if_neg (by omega), e, ih _ (k + 1) hd2.2 (by rw [Nat.pow_succ]; omega) (by omega)]
    rfl
theorem mag_dec (u : Nat) (h : u ≤ 999999) : Lib.parseMag (Lib.decDigits u) = .ok u := by
  obtain ⟨hv, hd⟩ := dec_val u
  have hl := dec_len6 h
  unfold Lib.parseMag
  rw [if_neg (by intro e; rw [e] at hl; simp at hl), parse_digs _ 0 0 hd (by decide) (by omega)]
  exact congrArg Lib.NumEnd.ok hv
theorem atoi_num (n : Int) (h : -999999 ≤ n ∧ n ≤ 999999) : Lib.atoiAll (numB n).data.toList = .ok n := by
  by_cases hn : n < 0
  · obtain ⟨u, rfl⟩ : ∃ u : Nat, n = -(u : Int) := ⟨n.natAbs, by omega⟩
    have hls : (numB (-(u : Int))).data.toList = 45 :: Lib.decDigits u := by rw [numB_neg u (by omega)]; simp [dec]
    rw [hls]
    unfold Lib.atoiAll
    have h45 : (45 : UInt8).toNat = 45 := rfl
    simp only [h45, or_true, if_true, mag_dec u (by omega)]
    rw [if_neg (by omega), if_neg (by omega)]
  · obtain ⟨u, rfl⟩ : ∃ u : Nat, n = (u : Int) := ⟨n.toNat, by omega⟩
    have hls : (numB (u : Int)).data.toList = Lib.decDigits u := by rw [numB_pos]; simp [dec]
    rw [hls]
    have hm := mag_dec u (by omega)
    obtain ⟨_, hd⟩ := dec_val u
    have hl := dec_len6 (u := u) (by omega)
    revert hm hd hl
    generalize Lib.decDigits u = l
    intro hm hd hl
    match l with
    | [] => simp at hl
    | c :: r =>
      have hd2 : isDig c = true ∧ digs r = true := by simpa [digs] using hd
      have hc : 48 ≤ c.toNat ∧ c.toNat ≤ 57 := of_decide_eq_true hd2.1
      unfold Lib.atoiAll
      have h1 : ¬ c.toNat = 43 := by omega
      have h2 : ¬ c.toNat = 45 := by omega
      simp only [h1, h2, or_self, if_false, not_false_eq_true, true_and, false_and]
      rw [hm]
      simp only []
      rw [if_neg (by omega)]

theorem okP_of_atoi {s : ByteArray} {v : Int} (h1 : okN v = true) (h2 : numB v = s) : resP s = v ∧ okP s = true := by
  have hb : -999999 ≤ v ∧ v ≤ 999999 := of_decide_eq_true h1
  obtain ⟨e1, e2⟩ := read_num v hb
  rw [h2] at e1 e2
  exact ⟨by unfold resP; rw [e1]; exact e2, e1⟩
theorem okP_bad {s : ByteArray} (h : ∀ v, Lib.atoiAll s.data.toList = .ok v → okN v = true → numB v = s → False) : resP s = 0 ∧ okP s = false := by
  cases hk : okP s with
  | false => exact ⟨by unfold resP; rw [hk]; rfl, rfl⟩
  | true =>
    obtain ⟨hb, hn⟩ := readV_bd hk
    exact (h (readV s) (by rw [← atoi_num _ hb, hn]) (decide_eq_true hb) hn).elim

def ErrAt (w : World) (g : Nat) : Prop := ∃ t p, w.cell? ⟨g, 0, none⟩ = some (.iface t p)
theorem ErrAt.below {w w' : World} {g : Nat} (h : ErrAt w g) (hb : Below w.heap.size w w') : ErrAt w' g := by
  obtain ⟨t, p, h⟩ := h
  exact ⟨t, p, cellOf hb (cell_of_lt h) h⟩

theorem atoi_bad (s : ByteArray) (hs : s.size ≤ 1048576) (h : ∀ v, Lib.atoiAll s.data.toList ≠ .ok v) (w : World) (h0 : ErrAt w 0) (h1 : ErrAt w 1) :
    Calls Tryd.prog 28 #[.string s] w fun e w' => ∃ x t p, e = .returned (.tuple #[.int .i64 x, .iface t p]) ∧ Below w.heap.size w w' := by
  obtain ⟨t0, p0, h0⟩ := h0
  obtain ⟨t1, p1, h1⟩ := h1
  rcases hx : Lib.atoiAll s.data.toList with v | _ | _
  · exact (h v hx).elim
  · refine (Any.strconv_Atoi_syntax Tryd.laysC172 s (by omega) hx _ w h0 (Or.inr ⟨_, _, rfl⟩)).mono ?_
    rintro e w' ⟨N, rfl, -, -, hb⟩
    exact ⟨_, _, _, rfl, hb⟩
  · refine (Any.strconv_Atoi_range Tryd.laysC172 s (by omega) hx _ w h1 (Or.inr ⟨_, _, rfl⟩)).mono ?_
    rintro e w' ⟨N, rfl, -, -, hb⟩
    exact ⟨_, _, _, rfl, hb⟩
theorem atoi_good (s : ByteArray) (hs : s.size ≤ 1048576) (v : Int) (h : Lib.atoiAll s.data.toList = .ok v) (w : World) :
    Calls Tryd.prog 28 #[.string s] w fun e w' => e = .returned (.tuple #[.int .i64 v, .nilIface]) ∧ Below w.heap.size w w' := by
  refine (Tryd.strconv_Atoi_ok s (by omega) v h w).mono ?_
  rintro e w' ⟨he, hw⟩
  refine ⟨he, ?_⟩
  rcases hw with rfl | ⟨t, rfl⟩
  · exact Below.refl _ _
  · exact Lib.bytesWorld_below _ _ _

set_option maxHeartbeats 400000 in
theorem implParse (s : ByteArray) (hs : s.size ≤ 1048576) (w : World) (hp : Pow10 w) (h0 : ErrAt w 0) (h1 : ErrAt w 1) :
    Calls Tryd.prog 13 #[.string s] w fun e w' => e = .returned (.tuple #[.int .i64 (resP s), .bool (okP s)]) ∧ Below w.heap.size w w' := by
  have HP := Lib.hid hp
  clear hp
  by_cases hx : ∃ v, Lib.atoiAll s.data.toList = .ok v
  · obtain ⟨v, hv⟩ := hx
    have HV := Lib.hid hv
    cases ho : okN v with
    | true =>
      have HN := Lib.hid (resN_yes (of_decide_eq_true ho)).1
      by_cases hn : numB v = s
      · have HR := Lib.hid (okP_of_atoi ho hn)
        have HO := Lib.hid ho
        have HE := Lib.hid hn
        clear hv h0 h1 ho hn
        go_enter Tryd.func13, Tryd.ntmps13
        go_wp2_with fail
        refine (atoi_good s hs v HV.out _).mono ?_
        rintro e w1 ⟨rfl, hb1⟩
        go_wp2_with fail
        refine (implFormat v _ (pow10_below HP.out hb1)).mono ?_
        rintro e w2 ⟨rfl, hb2⟩
        rw [HO.out, HN.out, HE.out]
        go_wp2
        go_ret2
        exact ⟨ret2P HR.out.1.symm HR.out.2.symm, hb1.trans (hb2.mono hb1.size)⟩
      · have HR := Lib.hid (okP_bad (s := s) (fun u hu _ h2 => by
          rw [hv] at hu
          injection hu with hu
          exact hn (hu ▸ h2)))
        have HO := Lib.hid ho
        have hne := str_ne hn
        clear hv h0 h1 ho hn
        go_enter Tryd.func13, Tryd.ntmps13
        go_wp2_with fail
        refine (atoi_good s hs v HV.out _).mono ?_
        rintro e w1 ⟨rfl, hb1⟩
        go_wp2_with fail
        refine (implFormat v _ (pow10_below HP.out hb1)).mono ?_
        rintro e w2 ⟨rfl, hb2⟩
        rw [HO.out, HN.out]
        go_wp2
        go_ret2
        exact ⟨ret2P HR.out.1.symm HR.out.2.symm, hb1.trans (hb2.mono hb1.size)⟩
    | false =>
      have HR := Lib.hid (okP_bad (s := s) (fun u hu h2 _ => by
        rw [hv] at hu
        injection hu with hu
        rw [← hu, ho] at h2
        cases h2))
      have HO := Lib.hid ho
      clear hv h0 h1 ho
      go_enter Tryd.func13, Tryd.ntmps13
      go_wp2_with fail
      refine (atoi_good s hs v HV.out _).mono ?_
      rintro e w1 ⟨rfl, hb1⟩
      go_wp2_with fail
      refine (implFormat v _ (pow10_below HP.out hb1)).mono ?_
      rintro e w2 ⟨rfl, hb2⟩
      rw [HO.out]
      go_wp2
      go_ret2
      exact ⟨ret2P HR.out.1.symm HR.out.2.symm, hb1.trans (hb2.mono hb1.size)⟩
  · have hx2 : ∀ v, Lib.atoiAll s.data.toList ≠ .ok v := fun v e => hx ⟨v, e⟩
    have HR := Lib.hid (okP_bad (s := s) (fun u hu _ _ => hx2 u hu))
    have HX := Lib.hid hx2
    clear hx hx2
    go_enter Tryd.func13, Tryd.ntmps13
    go_wp2_with fail
    refine (atoi_bad s hs HX.out _ h0 h1).mono ?_
    rintro e w1 ⟨x, t, p, rfl, hb1⟩
    go_wp2
    go_ret2
    exact ⟨ret2P HR.out.1.symm HR.out.2.symm, hb1⟩

theorem iface_of {H : Type} {enc : TypeId × Value → H} {P : Program} {w : World} {base : Nat} {sp : Nat → Bool} {fuel : Nat} {t : TypeId} {ms : Array (String × TypeId)} {cs : List Value} {nm : String} {d : DataW H} {p : List MemPlace}
    (ht : P.underlying t = some (.interface ms)) (h : DataW.trod enc P w base sp false fuel t cs = some (.iface nm d, p)) : ∃ u v, cs = [.iface u v] := by
  cases fuel with
  | zero => simp [DataW.trod] at h
  | succ n =>
    unfold DataW.trod at h
    rw [ht] at h
    split at h <;> simp_all
theorem errAt_of {W : World} {l : List (String × DataW Unit)} {n nm : String} {d : DataW Unit} {g : Nat} (h : laidMetH Tryd.prog l W)
    (hl : l.filter (fun x => x.1 == n) = [(n, .iface nm d)]) (hh : laidMetH Tryd.prog [(n, .iface nm d)] W → laidMet Tryd.prog [(n, .iface nm d)] W)
    (hg : Tryd.prog.globalNamed n = some g) (hty : (Tryd.prog.globals[g]?).map (·.type) = some 46) : ErrAt W g := by
  have h2 := laidMetH.filter (fun x => x.1 == n) h
  rw [hl] at h2
  obtain ⟨ps, ⟨g0, t0, cs0, f0, p0, q0, hg0, ht0, hv0, hd0, _⟩, _⟩ := hh h2
  obtain rfl := Option.some.inj (hg.symm.trans hg0)
  obtain rfl := Option.some.inj (hty.symm.trans ht0)
  obtain ⟨u, v, hc⟩ := iface_of Tryd.underlying46 hd0
  refine ⟨u, v, ?_⟩
  rw [World.var?_cell hg0 hv0 0, ← Array.getElem?_toList, hc]
  rfl

/-- A world that holds tables and sentinels. -/
noncomputable def layIn (h : Array Obj) (x : String × DataW Unit) : Array Obj :=
  match x.2 with
  | .iface _ (.ptr (.agg [.lit (.string bs)])) =>
    match Tryd.prog.globalNamed x.1 with
    | some g => (h.modify g fun
      | .cells _ t frozen => .cells #[.iface 86 (.pointer (some ⟨h.size, 0, none⟩))] t frozen
      | o => o).push (.cells #[.string ⟨bs.toArray⟩] 88)
    | none => h
  | _ => layTab h x
noncomputable def holdingAll (os : Os) (l : List (String × DataW Unit)) : World :=
  { World.holding Tryd.prog os ⟨#[], #[], []⟩ with heap := l.foldl layIn (World.holding Tryd.prog os ⟨#[], #[], []⟩).heap }
end Go.Proofs.YtkjiejobiihipaaDoor
namespace Go.Proofs.YtkjiejobiihipaaDoor.fnExactParseInt
open Go.ChangeShapes Go.WideShapes Go.ChangeAt Go.RowKit Go.ChangeMaps

theorem gS : Tryd.prog.globalNamed "strconv.ErrSyntax" = some 0 := by kernel_rfl
theorem gST : (Tryd.prog.globals[0]?).map (·.type) = some 46 := by kernel_rfl
theorem gR : Tryd.prog.globalNamed "strconv.ErrRange" = some 1 := by kernel_rfl
theorem gRT : (Tryd.prog.globals[1]?).map (·.type) = some 46 := by kernel_rfl

theorem walk_all (s : ByteArray) (_ : s.size ≤ maxLen) (w : World) (hL : laidMetH Tryd.prog Rows.fnExactParseIntRow.laid w) (_ : w.ShapedOpen Tryd.prog) :
    Calls Tryd.prog 5 #[.string s] w fun e w' => e = .returned (.bool true) ∧ Below w.heap.size w w' := by
  have HP := Lib.hid (pow10_of hL (by rfl))
  have h0 : ErrAt w 0 := errAt_of hL (by rfl) (by exact fun h => h) gS gST
  have h1 : ErrAt w 1 := errAt_of hL (by rfl) (by exact fun h => h) gR gRT
  have H0 := Lib.hid h0
  have H1 := Lib.hid h1
  clear hL h0 h1
  by_cases hb : 1048576 < s.size
  · go_enter Tryd.func5, Tryd.ntmps5
    go_wp2
    go_ret
    exact ⟨rfl, Below.refl _ _⟩
  · have hs : s.size ≤ 1048576 := by omega
    go_enter Tryd.func5, Tryd.ntmps5
    go_wp2_with fail
    refine (specParse s _ hs).mono ?_
    rintro e w' ⟨rfl, m, rfl⟩
    go_wp2_with fail
    refine (implParse s hs _ (show Pow10 (w.drewN m) from HP.out) (show ErrAt (w.drewN m) _ from H0.out) (show ErrAt (w.drewN m) _ from H1.out)).mono ?_
    rintro e w2 ⟨rfl, hb2⟩
    go_wp2
    go_ret
    exact ⟨rfl, (drewN_b (Below.refl _ _) m).trans hb2⟩

noncomputable def laidWorld (os : Os) : World := holdingAll os Rows.fnExactParseIntRow.laid

theorem contract (H : Type) (enc : TypeId × Value → H) (W : World) (base : Nat) (args : Array Value) (ds gs : List (DataW H)) (before : List MemPlace)
    (hval : ∀ (j : Nat) t v, Tryd.f5.params[j]? = some t → args[j]? = some v → Value.okWide Tryd.prog W .any base t v)
    (hW : DataW.Whole enc Tryd.prog Tryd.f5.params.toList Rows.fnExactParseIntSpec.vars false W args.toList ds gs before) (hL : laidMetH Tryd.prog Rows.fnExactParseIntRow.laid W) (hS : W.ShapedOpen Tryd.prog) :
    Calls Tryd.prog 5 args W fun e W' => ∃ v, e = .returned v ∧ Rows.fnExactParseIntSpec.post enc Tryd.prog Tryd.f5 false true false false W args v W' := by
  have hW' := hW
  obtain ⟨p, q, hA0, hV, rfl, hfz, hnd⟩ := hW
  have hA : DataW.TrodAll enc Tryd.prog W 0 (fun _ => true) true Tryd.f5.params.toList args.toList ds p := hA0
  rw [Tryd.params5] at hA hval
  obtain ⟨v0, vs0, d0, ds0, p0, q0, hargs, rfl, rfl, h0, r0⟩ := trodAll_cons hA
  obtain ⟨rfl, rfl, rfl⟩ := trodAll_nil r0
  obtain rfl : args = #[v0] := by cases args; simp_all
  obtain ⟨s0, rfl, rfl, rfl, hm0⟩ := open_string Tryd.underlying9 (hval 0 9 v0 rfl rfl) h0
  refine lawPost rfl rfl Tryd.underlying4 (by kernel_rfl) (by kernel_rfl) hW' (fun hg => by subst hg; exact ⟨rfl, rfl, rfl⟩) ?_
  exact walk_all s0 hm0 W hL hS

theorem laid_met (os : Os) : laidMet Tryd.prog Rows.fnExactParseIntRow.laid ((laidWorld os).forCall (fun _ _ => 0) ⟨#[], #[.string .empty], []⟩).memory :=
  laidMet_of_run' 8 (by kernel_rfl) (by kernel_rfl)
theorem reads (os : Os) {H : Type} (enc : TypeId × Value → H) : ∃ places, DataW.whole enc Tryd.prog ((laidWorld os).forCall (fun _ _ => 0) ⟨#[], #[.string .empty], []⟩).memory Tryd.f5.params.toList Rows.fnExactParseIntSpec.vars false #[.string .empty].toList 8 = some ([.lit (.string [])], [], places) :=
  ⟨[], by kernel_rfl⟩

set_option maxRecDepth 100000 in
theorem lifted (os : Os) (started : os.Started) (H : Type) (enc : TypeId × Value → H) (F : Stop.Interp) :
    ReturnsInHanded {} Tryd.checked os 5 .any ((OpenSpec.ofChange Rows.fnExactParseIntSpec).preRow enc Tryd.prog Tryd.f5 Rows.fnExactParseIntRow.domain false Rows.fnExactParseIntRow.laid) (((OpenSpec.ofChange Rows.fnExactParseIntSpec).at F).post enc Tryd.prog Tryd.f5 false true false false) := by
  obtain ⟨places, hx⟩ := reads os enc
  refine returnsInHanded_of_row (C := Tryd.checked) (s := OpenSpec.ofChange Rows.fnExactParseIntSpec) own started (by kernel_rfl) Tryd.func5
    (witness_row_at (enc := enc) (C := Tryd.checked) false (laidWorld os) #[.string .empty] rfl (by kernel_rfl) (by kernel_rfl) (by kernel_rfl)
      (OpenSpec.preRow_of_cond 8 hx (by kernel_rfl) (fun k hk => by cases hk) (by kernel_rfl) (laid_met os))) ?_
  intro W base args ds gs before hval hW _ _ _ hL hS _
  exact contract H enc W base args ds gs before hval hW hL hS

theorem said : Rows.FnExactParseIntSaid :=
  OpenClaim.holds_of_cond 5 Tryd.f5 rfl rfl rfl rfl rfl rfl rfl ⟨rfl, rfl, rfl, rfl, rfl⟩ rfl rfl rfl rfl rfl (by kernel_rfl) Tryd.func5 (by kernel_rfl)
    (of_decide_eq_true (by kernel_rfl)) (by unfold Func.isWrapper; first | (rw [if_pos (by decide +kernel)]; kernel_rfl) | (rw [if_neg (by decide +kernel)]; exact ⟨rfl, rfl⟩))
    (fun os started H enc _ F => by rw [OpenClaim.pre_eq_preRow]; exact lifted os started H enc F)

theorem plain (f : FuncId) (fn : Func) (hf : Tryd.pinned.checked.prog.funcNamed Rows.fnExactParseIntRow.func = some f) (hfn : Tryd.pinned.checked.prog.funcs[f]? = some fn) :
    true = Tryd.pinned.checked.prog.looks [] ∧ ∀ (j : Nat) t, fn.params[j]? = some t → Tryd.pinned.checked.prog.wantsStandIn t = false := by
  obtain rfl : f = 5 := Option.some.inj ((show Tryd.prog.funcNamed Rows.fnExactParseIntRow.func = some 5 by kernel_rfl).symm.trans hf) |>.symm
  obtain rfl : fn = Tryd.f5 := (Option.some.inj (Tryd.func5.symm.trans hfn)).symm
  refine ⟨by kernel_rfl, fun j t ht => ?_⟩
  have hall : Tryd.f5.params.toList.all (fun t => Tryd.prog.wantsStandIn t == false) = true := by kernel_rfl
  have hm : t ∈ Tryd.f5.params.toList := by simpa using Array.mem_of_getElem? ht
  exact eq_of_beq (List.all_eq_true.1 hall t hm)

theorem card : Rows.FnExactParseIntCardSaid :=
  Claim7.holds_tied_plain_at .later [] _ _ _ _ said (fun _ h => by cases h) (by kernel_rfl) (fun _ h => by cases h) fnExactParseInt_row_tie rfl ⟨rfl, rfl⟩ (by kernel_rfl) rfl plain (by kernel_rfl)

end Go.Proofs.YtkjiejobiihipaaDoor.fnExactParseInt
