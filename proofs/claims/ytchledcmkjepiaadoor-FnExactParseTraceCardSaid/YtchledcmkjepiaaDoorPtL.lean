/- FnExactParseTrace: for every text the law answers true, where the listed variables hold what the program lays. -/
import Derived.Test.YtchledcmkjepiaaDoorPtI
namespace Go.Proofs.YtchledcmkjepiaaDoor
open Go.ChangeShapes Go.WideShapes Go.ChangeAt Go.RowKit Go.ChangeMaps
/-- A world that holds tables and sentinels. -/
noncomputable def layIn (h : Array Obj) (x : String × DataW Unit) : Array Obj :=
  match x.2 with
  | .iface _ (.ptr (.agg [.lit (.string bs)])) =>
    match Tryd.prog.globalNamed x.1 with
    | some g => (h.modify g fun
      | .cells _ t frozen => .cells #[.iface 113 (.pointer (some ⟨h.size, 0, none⟩))] t frozen
      | o => o).push (.cells #[.string ⟨bs.toArray⟩] 115)
    | none => h
  | _ => layTab h x
noncomputable def holdingAll (os : Os) (l : List (String × DataW Unit)) : World :=
  { World.holding Tryd.prog os ⟨#[], #[], []⟩ with heap := l.foldl layIn (World.holding Tryd.prog os ⟨#[], #[], []⟩).heap }
end Go.Proofs.YtchledcmkjepiaaDoor
namespace Go.Proofs.YtchledcmkjepiaaDoor.fnExactParseTrace
open Go.ChangeShapes Go.WideShapes Go.ChangeAt Go.RowKit Go.ChangeMaps
set_option linter.unusedSimpArgs false
set_option linter.unusedVariables false

theorem gS : Tryd.prog.globalNamed "strconv.ErrSyntax" = some 1 := by kernel_rfl
theorem gST : (Tryd.prog.globals[1]?).map (·.type) = some 78 := by kernel_rfl
theorem gR : Tryd.prog.globalNamed "strconv.ErrRange" = some 2 := by kernel_rfl
theorem gRT : (Tryd.prog.globals[2]?).map (·.type) = some 78 := by kernel_rfl

theorem resPT_len (s : ByteArray) : (resPT s).xs.length ≤ 24 := by
  cases h : okPT s with
  | false => rw [resPT_no h]; simp [nilT]
  | true =>
    rw [resPT_yes h]
    obtain ⟨_, _, _, hg, _⟩ := okPT_yes h
    obtain ⟨⟨_, _, _, _, g4, _⟩, _⟩ := goodT_yes hg
    omega
theorem specPTf (s : ByteArray) (w : World) (B : Nat) (hB : B ≤ w.heap.size) (hs : s.size ≤ 1048576) :
    Calls Tryd.prog 5 #[.string s] w fun e w' => ∃ v, e = .returned (.tuple #[v, .bool (okPT s)]) ∧ TrO w' w.heap.size w'.heap.size v (resPT s) ∧ Below w.heap.size w w' := specPT s w hs
theorem implPTf (s : ByteArray) (w : World) (B : Nat) (hp : Pow10 w) (hm : MaxAt w) (e0 : ErrAt w 1) (e1 : ErrAt w 2) (hB : B ≤ w.heap.size) (hs : s.size ≤ 1048576) :
    Calls Tryd.prog 6 #[.string s] w fun e w' => ∃ v, e = .returned (.tuple #[v, .bool (okPT s)]) ∧ TrO w' w.heap.size w'.heap.size v (resPT s) ∧ Below w.heap.size w w' := implPT s w hs hp hm e0 e1

set_option maxRecDepth 100000 in
set_option maxHeartbeats 1000000 in
theorem walk_big0 (a0 : ByteArray) (w : World) (hp : Pow10 w) (hm : MaxAt w) (he0 : ErrAt w 1) (he1 : ErrAt w 2)  (g0 : ¬ (a0.size : Int) ≤ 1048576):
    Calls Tryd.prog 3 #[.string a0] w fun e w' => e = .returned (.bool true) ∧ Below w.heap.size w w' := by
  have C_0 := Below.refl w.heap.size w
  go_enter Tryd.func3, Tryd.ntmps3
  go_wp2
  go_ret
  exact ⟨rfl, C_0⟩

set_option maxRecDepth 100000 in
set_option maxHeartbeats 1000000 in
theorem walk_main (a0 : ByteArray) (hs0 : a0.size ≤ 1048576) (w : World) (hp : Pow10 w) (hm : MaxAt w) (he0 : ErrAt w 1) (he1 : ErrAt w 2) (g0 : (a0.size : Int) ≤ 1048576):
    Calls Tryd.prog 3 #[.string a0] w fun e w' => e = .returned (.bool true) ∧ Below w.heap.size w w' := by
  have hS := fun  w B => specPTf a0 w B
  have hI := fun  w B x0 x1 x2 x3 => implPTf a0 w B x0 x1 x2 x3
  have Hhp := Lib.hid hp
  clear hp
  have Hhm := Lib.hid hm
  clear hm
  have Hhe0 := Lib.hid he0
  clear he0
  have Hhe1 := Lib.hid he1
  clear he1
  have hl0 : (resPT a0).xs.length ≤ 1048576 := (by have := resPT_len a0; omega)
  generalize resPT a0 = r0 at *
  generalize okPT a0 = r1 at *
  have HS := Lib.hid hS
  have HI := Lib.hid hI
  clear hS hI
  have C_0 := Below.refl w.heap.size w
  go_enter Tryd.func3, Tryd.ntmps3
  go_wp2_with fail
  refine (HS.out _ (w).heap.size  (Nat.le_refl _)  hs0).mono ?_
  rintro e w1 ⟨y0_0, rfl, oy0_0, hb1⟩
  have z1 : w.heap.size ≤ w1.heap.size := hb1.size
  have C_2 := C_0.trans (hb1.mono (B' := w.heap.size) (by omega))
  clear C_0
  clear hb1
  have ky0_0_o := oy0_0.mono (L' := w.heap.size) (B' := w1.heap.size) (by simp <;> omega) (Nat.le_refl _)
  clear oy0_0
  obtain ⟨aoy0_0, capy0_0, rfl⟩ := ky0_0_o.form
  have N3 := (Below.refl (w1).heap.size w1).alloc (Nat.le_refl _) (.cells #[.int .i64 r0.st, .int .i64 r0.start, .slice aoy0_0 r0.xs.length capy0_0] 24)
  have bx3 : Bx (w1.alloc (.cells #[.int .i64 r0.st, .int .i64 r0.start, .slice aoy0_0 r0.xs.length capy0_0] 24)) (w1.heap.size) [.int .i64 r0.st, .int .i64 r0.start, .slice aoy0_0 r0.xs.length capy0_0] := Bx.new w1 [.int .i64 r0.st, .int .i64 r0.start, .slice aoy0_0 r0.xs.length capy0_0] 24
  have ky0_0_4 := ky0_0_o.below (N3.mono (B' := w1.heap.size) (by omega))
  have C_4 := C_2.trans (N3.mono (B' := w.heap.size) (by omega))
  clear ky0_0_o C_2
  clear N3
  go_wp2_with fail
  refine (HI.out _ ((w1.alloc (.cells #[.int .i64 r0.st, .int .i64 r0.start, .slice aoy0_0 r0.xs.length capy0_0] 24))).heap.size (pow10_below Hhp.out C_4) (MaxAt.below Hhm.out C_4) (ErrAt.below Hhe0.out C_4) (ErrAt.below Hhe1.out C_4) (Nat.le_refl _)  hs0).mono ?_
  rintro e w5 ⟨y0_4, rfl, oy0_4, hb5⟩
  have z5 : w1.heap.size + 1 ≤ w5.heap.size := by have := hb5.size; simpa using this
  have ky0_0_6 := ky0_0_4.below (hb5.mono (B' := w1.heap.size) (by simp <;> omega))
  have bbxy0_0_6 := bx3.below hb5
  have C_6 := C_4.trans (hb5.mono (B' := w.heap.size) (by simp <;> omega))
  clear ky0_0_4 bx3 C_4
  clear hb5
  have ky0_4_o := oy0_4.mono (L' := w1.heap.size + 1) (B' := w5.heap.size) (by simp <;> omega) (Nat.le_refl _)
  clear oy0_4
  obtain ⟨aoy0_4, capy0_4, rfl⟩ := ky0_4_o.form
  have N7 := (Below.refl (w5).heap.size w5).alloc (Nat.le_refl _) (.cells #[.int .i64 r0.st, .int .i64 r0.start, .slice aoy0_4 r0.xs.length capy0_4] 24)
  have bx7 : Bx (w5.alloc (.cells #[.int .i64 r0.st, .int .i64 r0.start, .slice aoy0_4 r0.xs.length capy0_4] 24)) (w5.heap.size) [.int .i64 r0.st, .int .i64 r0.start, .slice aoy0_4 r0.xs.length capy0_4] := Bx.new w5 [.int .i64 r0.st, .int .i64 r0.start, .slice aoy0_4 r0.xs.length capy0_4] 24
  have ky0_0_8 := ky0_0_6.below (N7.mono (B' := w1.heap.size) (by omega))
  have ky0_4_8 := ky0_4_o.below (N7.mono (B' := w5.heap.size) (by omega))
  have bbxy0_0_8 := bbxy0_0_6.below N7
  have C_8 := C_6.trans (N7.mono (B' := w.heap.size) (by omega))
  clear ky0_0_6 ky0_4_o bbxy0_0_6 C_6
  clear N7
  have q1 := bx7.2 0 _ rfl
  have q2 := bx7.2 1 _ rfl
  have q3 := bx7.2 2 _ rfl
  have q4 := bbxy0_0_8.2 0 _ rfl
  have q5 := bbxy0_0_8.2 1 _ rfl
  have q6 := bbxy0_0_8.2 2 _ rfl
  go_wp2_with fail
  refine (eq_Trace r0 _ _ _ ((w5.alloc (.cells #[.int .i64 r0.st, .int .i64 r0.start, .slice aoy0_4 r0.xs.length capy0_4] 24))).heap.size (ky0_4_8.lst.mono (by simp <;> omega)) (ky0_0_8.lst.mono (by simp <;> omega)) (Nat.le_refl _)).mono ?_
  rintro e w9 ⟨rfl, hb9⟩
  have z9 : w5.heap.size + 1 ≤ w9.heap.size := by have := hb9.size; simpa using this
  clear q1 q2 q3 q4 q5 q6
  have ky0_0_10 := ky0_0_8.below (hb9.mono (B' := w1.heap.size) (by simp <;> omega))
  have ky0_4_10 := ky0_4_8.below (hb9.mono (B' := w5.heap.size) (by simp <;> omega))
  have bbxy0_0_10 := bbxy0_0_8.below hb9
  have bbxy0_4_10 := bx7.below hb9
  have C_10 := C_8.trans (hb9.mono (B' := w.heap.size) (by simp <;> omega))
  clear ky0_0_8 ky0_4_8 bbxy0_0_8 bx7 C_8
  clear hb9
  have q7 := bbxy0_4_10.2 0 _ rfl
  have q8 := bbxy0_4_10.2 1 _ rfl
  have q9 := bbxy0_4_10.2 2 _ rfl
  go_wp2_with fail
  refine (mark_Trace r0 _ (1) _ (w1.heap.size + 1) w5.heap.size ky0_4_10 (by omega) hl0 (by omega) (by omega)).mono ?_
  rintro e w11 ⟨rfl, mk, hu11⟩
  have z11 : w9.heap.size ≤ w11.heap.size := hu11.size
  clear q7 q8 q9
  have ky0_0_12 := ky0_0_10.below (hu11.low (B := w1.heap.size) (by omega) (by omega))
  have bbxy0_0_12 := bbxy0_0_10.upd hu11 (by omega)
  have bbxy0_4_12 := bbxy0_4_10.upd hu11 (by omega)
  have C_12 := C_10.trans (hu11.low (B := w.heap.size) (by omega) (by omega))
  clear ky0_0_10 bbxy0_0_10 bbxy0_4_10 C_10
  clear hu11
  clear ky0_4_10
  have ky0_4_m11 := mk
  clear mk
  have q10 := bbxy0_4_12.2 0 _ rfl
  have q11 := bbxy0_4_12.2 1 _ rfl
  have q12 := bbxy0_4_12.2 2 _ rfl
  go_wp2_with fail
  refine (held_Trace r0 _ (1) _ (w5.heap.size) ky0_4_m11.lst (by omega) hl0 (by omega) (by omega)).mono ?_
  rintro e w13 ⟨rfl, hb13⟩
  have z13 : w11.heap.size ≤ w13.heap.size := hb13.size
  clear q10 q11 q12
  have ky0_0_14 := ky0_0_12.below (hb13.mono (B' := w1.heap.size) (by omega))
  have ky0_4_14 := ky0_4_m11.below (hb13.mono (B' := w5.heap.size) (by omega))
  have bbxy0_0_14 := bbxy0_0_12.below hb13
  have bbxy0_4_14 := bbxy0_4_12.below hb13
  have C_14 := C_12.trans (hb13.mono (B' := w.heap.size) (by omega))
  clear ky0_0_12 ky0_4_m11 bbxy0_0_12 bbxy0_4_12 C_12
  clear hb13
  have dq14 : ¬ (1 + (r0.xs.length : Int)) < 0 := by omega
  go_wp2_with fail
  refine (HI.out _ (w13).heap.size (pow10_below Hhp.out C_14) (MaxAt.below Hhm.out C_14) (ErrAt.below Hhe0.out C_14) (ErrAt.below Hhe1.out C_14) (Nat.le_refl _)  hs0).mono ?_
  rintro e w15 ⟨y0_14, rfl, oy0_14, hb15⟩
  have z15 : w13.heap.size ≤ w15.heap.size := hb15.size
  have ky0_0_16 := ky0_0_14.below (hb15.mono (B' := w1.heap.size) (by omega))
  have ky0_4_16 := ky0_4_14.below (hb15.mono (B' := w5.heap.size) (by omega))
  have bbxy0_0_16 := bbxy0_0_14.below hb15
  have bbxy0_4_16 := bbxy0_4_14.below hb15
  have C_16 := C_14.trans (hb15.mono (B' := w.heap.size) (by omega))
  clear ky0_0_14 ky0_4_14 bbxy0_0_14 bbxy0_4_14 C_14
  clear hb15
  have ky0_14_o := oy0_14.mono (L' := w13.heap.size) (B' := w15.heap.size) (by simp <;> omega) (Nat.le_refl _)
  clear oy0_14
  obtain ⟨aoy0_14, capy0_14, rfl⟩ := ky0_14_o.form
  have N17 := (Below.refl (w15).heap.size w15).alloc (Nat.le_refl _) (.cells #[.int .i64 r0.st, .int .i64 r0.start, .slice aoy0_14 r0.xs.length capy0_14] 24)
  have bx17 : Bx (w15.alloc (.cells #[.int .i64 r0.st, .int .i64 r0.start, .slice aoy0_14 r0.xs.length capy0_14] 24)) (w15.heap.size) [.int .i64 r0.st, .int .i64 r0.start, .slice aoy0_14 r0.xs.length capy0_14] := Bx.new w15 [.int .i64 r0.st, .int .i64 r0.start, .slice aoy0_14 r0.xs.length capy0_14] 24
  have ky0_0_18 := ky0_0_16.below (N17.mono (B' := w1.heap.size) (by omega))
  have ky0_4_18 := ky0_4_16.below (N17.mono (B' := w5.heap.size) (by omega))
  have ky0_14_18 := ky0_14_o.below (N17.mono (B' := w15.heap.size) (by omega))
  have bbxy0_0_18 := bbxy0_0_16.below N17
  have bbxy0_4_18 := bbxy0_4_16.below N17
  have C_18 := C_16.trans (N17.mono (B' := w.heap.size) (by omega))
  clear ky0_0_16 ky0_4_16 ky0_14_o bbxy0_0_16 bbxy0_4_16 C_16
  clear N17
  have q13 := bx17.2 0 _ rfl
  have q14 := bx17.2 1 _ rfl
  have q15 := bx17.2 2 _ rfl
  have q16 := bbxy0_0_18.2 0 _ rfl
  have q17 := bbxy0_0_18.2 1 _ rfl
  have q18 := bbxy0_0_18.2 2 _ rfl
  go_wp2_with fail
  refine (eq_Trace r0 _ _ _ ((w15.alloc (.cells #[.int .i64 r0.st, .int .i64 r0.start, .slice aoy0_14 r0.xs.length capy0_14] 24))).heap.size (ky0_14_18.lst.mono (by simp <;> omega)) (ky0_0_18.lst.mono (by simp <;> omega)) (Nat.le_refl _)).mono ?_
  rintro e w19 ⟨rfl, hb19⟩
  have z19 : w15.heap.size + 1 ≤ w19.heap.size := by have := hb19.size; simpa using this
  clear q13 q14 q15 q16 q17 q18
  have ky0_0_20 := ky0_0_18.below (hb19.mono (B' := w1.heap.size) (by simp <;> omega))
  have ky0_4_20 := ky0_4_18.below (hb19.mono (B' := w5.heap.size) (by simp <;> omega))
  have ky0_14_20 := ky0_14_18.below (hb19.mono (B' := w15.heap.size) (by simp <;> omega))
  have bbxy0_0_20 := bbxy0_0_18.below hb19
  have bbxy0_4_20 := bbxy0_4_18.below hb19
  have bbxy0_14_20 := bx17.below hb19
  have C_20 := C_18.trans (hb19.mono (B' := w.heap.size) (by simp <;> omega))
  clear ky0_0_18 ky0_4_18 ky0_14_18 bbxy0_0_18 bbxy0_4_18 bx17 C_18
  clear hb19
  have q19 := bbxy0_4_20.2 0 _ rfl
  have q20 := bbxy0_4_20.2 1 _ rfl
  have q21 := bbxy0_4_20.2 2 _ rfl
  go_wp2_with fail
  refine (held_Trace r0 _ (1) _ (w5.heap.size) ky0_4_20.lst (by omega) hl0 (by omega) (by omega)).mono ?_
  rintro e w21 ⟨rfl, hb21⟩
  have z21 : w19.heap.size ≤ w21.heap.size := hb21.size
  clear q19 q20 q21
  have ky0_0_22 := ky0_0_20.below (hb21.mono (B' := w1.heap.size) (by omega))
  have ky0_4_22 := ky0_4_20.below (hb21.mono (B' := w5.heap.size) (by omega))
  have ky0_14_22 := ky0_14_20.below (hb21.mono (B' := w15.heap.size) (by omega))
  have bbxy0_0_22 := bbxy0_0_20.below hb21
  have bbxy0_4_22 := bbxy0_4_20.below hb21
  have bbxy0_14_22 := bbxy0_14_20.below hb21
  have C_22 := C_20.trans (hb21.mono (B' := w.heap.size) (by omega))
  clear ky0_0_20 ky0_4_20 ky0_14_20 bbxy0_0_20 bbxy0_4_20 bbxy0_14_20 C_20
  clear hb21
  have dq22 : ¬ (1 + (r0.xs.length : Int)) < 0 := by omega
  go_wp2
  go_ret
  exact ⟨rfl, C_22⟩

set_option maxRecDepth 100000 in
theorem walk_all {H : Type} {enc : TypeId × Value → H} {base : Nat} {w : World} (a0 : ByteArray) (hm0 : a0.size ≤ maxLen) (hL : laidMetH Tryd.prog Rows.fnExactParseTraceRow.laid w) (hS : w.ShapedOpen Tryd.prog) :
    Calls Tryd.prog 3 #[.string a0] w fun e w' => e = .returned (.bool true) ∧ Below w.heap.size w w' := by
  have hp : Pow10 w := pow10_of hL (by rfl)
  have hm : MaxAt w := Tryd.laysM145.s1_3 w hS
  have he0 : ErrAt w 1 := errAt_of hL (by rfl) (by exact fun h => h) gS gST
  have he1 : ErrAt w 2 := errAt_of hL (by rfl) (by exact fun h => h) gR gRT
  by_cases g0 : (a0.size : Int) ≤ 1048576
  case neg => exact walk_big0 a0 w hp hm he0 he1 g0
  exact walk_main a0 (by omega) w hp hm he0 he1 g0

noncomputable def laidWorld (os : Os) : World := holdingAll os Rows.fnExactParseTraceRow.laid

set_option maxRecDepth 100000 in
theorem contract (H : Type) (enc : TypeId × Value → H) (W : World) (base : Nat) (args : Array Value) (ds gs : List (DataW H)) (before : List MemPlace)
    (hval : ∀ (j : Nat) t v, Tryd.f3.params[j]? = some t → args[j]? = some v → Value.okWide Tryd.prog W .any base t v)
    (hW : DataW.Whole enc Tryd.prog Tryd.f3.params.toList Rows.fnExactParseTraceSpec.vars false W args.toList ds gs before) (hL : laidMetH Tryd.prog Rows.fnExactParseTraceRow.laid W) (hS : W.ShapedOpen Tryd.prog) :
    Calls Tryd.prog 3 args W fun e W' => ∃ v, e = .returned v ∧ Rows.fnExactParseTraceSpec.post enc Tryd.prog Tryd.f3 false true false false W args v W' := by
  have hW' := hW
  obtain ⟨p, q, hA0, hV, rfl, hfz, hnd⟩ := hW
  have hA : DataW.TrodAll enc Tryd.prog W 0 (fun _ => true) true Tryd.f3.params.toList args.toList ds p := hA0
  rw [Tryd.params3] at hA hval
  obtain ⟨v0, vs0, d0, ds0, p0, q0, hargs, rfl, rfl, h0, r0⟩ := trodAll_cons hA
  obtain ⟨rfl, rfl, rfl⟩ := trodAll_nil r0
  obtain rfl : args = #[v0] := by cases args; simp_all
  obtain ⟨s0, rfl, rfl, rfl, hm0⟩ := open_string Tryd.underlying9 (hval 0 9 v0 rfl rfl) h0
  refine lawPost rfl rfl Tryd.underlying4 (by kernel_rfl) (by kernel_rfl) hW' (fun hg => by subst hg; exact ⟨rfl, rfl, rfl⟩) ?_
  exact walk_all (H := H) (enc := enc) (base := base) (w := W) s0 hm0 hL hS

set_option maxRecDepth 100000 in
theorem laid_met (os : Os) : laidMet Tryd.prog Rows.fnExactParseTraceRow.laid ((laidWorld os).forCall (fun _ _ => 0) ⟨#[], #[.string .empty], []⟩).memory :=
  laidMet_of_run' 8 (by kernel_rfl) (by kernel_rfl)
set_option maxRecDepth 100000 in
theorem reads (os : Os) {H : Type} (enc : TypeId × Value → H) : ∃ places, DataW.whole enc Tryd.prog ((laidWorld os).forCall (fun _ _ => 0) ⟨#[], #[.string .empty], []⟩).memory Tryd.f3.params.toList Rows.fnExactParseTraceSpec.vars false #[.string .empty].toList 8 = some ([.lit (.string [])], [], places) :=
  ⟨[], by kernel_rfl⟩

set_option maxRecDepth 100000 in
theorem lifted (os : Os) (started : os.Started) (H : Type) (enc : TypeId × Value → H) (F : Stop.Interp) :
    ReturnsInHanded {} Tryd.checked os 3 .any ((OpenSpec.ofChange Rows.fnExactParseTraceSpec).preRow enc Tryd.prog Tryd.f3 Rows.fnExactParseTraceRow.domain false Rows.fnExactParseTraceRow.laid) (((OpenSpec.ofChange Rows.fnExactParseTraceSpec).at F).post enc Tryd.prog Tryd.f3 false true false false) := by
  obtain ⟨places, hx⟩ := reads os enc
  refine returnsInHanded_of_row (C := Tryd.checked) (s := OpenSpec.ofChange Rows.fnExactParseTraceSpec) own started (by kernel_rfl) Tryd.func3
    (witness_row_at (enc := enc) (C := Tryd.checked) false (laidWorld os) #[.string .empty] rfl (by kernel_rfl) (by kernel_rfl) (by kernel_rfl)
      (OpenSpec.preRow_of_cond 8 hx (by kernel_rfl) (fun k hk => by cases hk) (by kernel_rfl) (laid_met os))) ?_
  intro W base args ds gs before hval hW _ _ _ hL hS _
  exact contract H enc W base args ds gs before hval hW hL hS

set_option maxRecDepth 100000 in
theorem said : Rows.FnExactParseTraceSaid :=
  OpenClaim.holds_of_cond 3 Tryd.f3 rfl rfl rfl rfl rfl rfl rfl ⟨rfl, rfl, rfl, rfl, rfl⟩ rfl rfl rfl rfl rfl (by kernel_rfl) Tryd.func3 (by kernel_rfl)
    (of_decide_eq_true (by kernel_rfl)) (by unfold Func.isWrapper; first | (rw [if_pos (by decide +kernel)]; kernel_rfl) | (rw [if_neg (by decide +kernel)]; exact ⟨rfl, rfl⟩))
    (fun os started H enc _ F => by rw [OpenClaim.pre_eq_preRow]; exact lifted os started H enc F)

set_option maxRecDepth 100000 in
theorem plain (f : FuncId) (fn : Func) (hf : Tryd.pinned.checked.prog.funcNamed Rows.fnExactParseTraceRow.func = some f) (hfn : Tryd.pinned.checked.prog.funcs[f]? = some fn) :
    true = Tryd.pinned.checked.prog.looks [] ∧ ∀ (j : Nat) t, fn.params[j]? = some t → Tryd.pinned.checked.prog.wantsStandIn t = false := by
  obtain rfl : f = 3 := Option.some.inj ((show Tryd.prog.funcNamed Rows.fnExactParseTraceRow.func = some 3 by kernel_rfl).symm.trans hf) |>.symm
  obtain rfl : fn = Tryd.f3 := (Option.some.inj (Tryd.func3.symm.trans hfn)).symm
  refine ⟨by kernel_rfl, fun j t ht => ?_⟩
  have hall : Tryd.f3.params.toList.all (fun t => Tryd.prog.wantsStandIn t == false) = true := by kernel_rfl
  have hm : t ∈ Tryd.f3.params.toList := by simpa using Array.mem_of_getElem? ht
  exact eq_of_beq (List.all_eq_true.1 hall t hm)

set_option maxRecDepth 100000 in
theorem card : Rows.FnExactParseTraceCardSaid :=
  Claim7.holds_tied_plain_at .later [] _ _ _ _ said (fun _ h => by cases h) (by kernel_rfl) (fun _ h => by cases h) fnExactParseTrace_row_tie rfl ⟨rfl, rfl⟩ (by kernel_rfl) rfl plain (by kernel_rfl)

end Go.Proofs.YtchledcmkjepiaaDoor.fnExactParseTrace
