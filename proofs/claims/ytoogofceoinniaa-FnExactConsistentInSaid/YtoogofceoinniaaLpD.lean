/- Location by boxes: cubes, sorted by the program. -/
import Derived.Test.YtoogofceoinniaaLoD
import Derived.Test.YtoogofceoinniaaLoA
import Derived.Test.YtoogofceoinniaaSrt
import Derived.Test.YtoogofceoinniaaGrew
import Derived.Test.YtoogofceoinniaaQTail
import Derived.Test.YtoogofceoinniaaIns
namespace Go.Proofs.Ytoogofceoinniaa
open Go.ChangeShapes Go.WideShapes Go.ChangeAt Go.RowKit Go.ChangeMaps Go.Sort Go.Shelf
set_option linter.unusedSimpArgs false
set_option linter.unusedVariables false
set_option linter.unusedSimpArgs false
set_option linter.unusedVariables false

def ascCb (l : List GCube) : Prop := l.Pairwise fun a b => befC b a = false
def cfCb (a b : GCube) : Int := orI (cmpI a.pWest b.pWest) (cmpI a.pSouth b.pSouth)
theorem ltCb_t {a b : GCube} : ltOf cfCb a b = true ↔ befC a b = true := by
  rw [befC_iff]
  unfold ltOf cfCb orI cmpI
  rw [decide_eq_true_eq]
  split <;> (try split) <;> (try split) <;> (try split) <;> omega
theorem ltCb_f {a b : GCube} : ltOf cfCb a b = false ↔ ¬ befC a b = true := by
  rw [← ltCb_t, Bool.not_eq_true]
theorem swoCb : SWO (ltOf cfCb) where
  irrefl a := by rw [ltCb_f, befC_iff]; omega
  trans a b c h k := by rw [ltCb_t, befC_iff] at *; omega
  ntrans a b c h k := by rw [ltCb_f, befC_iff] at *; omega
set_option maxRecDepth 100000 in
set_option maxHeartbeats 4000000 in
theorem cloCb (a b : GCube) (w : World) :
    Calls Try.prog 70 #[aggCb a, aggCb b] w fun e w' => e = .returned (.int .i64 (cfCb a b)) ∧ Grew w w' := by
  have G0 : Grew w ((w.alloc (objCb a)).alloc (objCb b)) := ((Grew.refl w).alloc _).alloc _
  have bA := (Bx.new w [.int .i64 a.pWest, .int .i64 a.pSouth, .int .i64 a.pSide, .int .i64 a.pFrom, .int .i64 a.pTo] 25).alloc (objCb b)
  have bB := Bx.new1 w (objCb a) [.int .i64 b.pWest, .int .i64 b.pSouth, .int .i64 b.pSide, .int .i64 b.pFrom, .int .i64 b.pTo] 25
  have a0 := bA.2 0 _ rfl
  have a1 := bA.2 1 _ rfl
  have b0 := bB.2 0 _ rfl
  have b1 := bB.2 1 _ rfl
  generalize hres : cfCb a b = res
  unfold cfCb at hres
  have HR := Lib.hid hres
  clear hres bA bB
  have CW := Lib.hid (fun W => cmpCompare a.pWest b.pWest W)
  have CS := Lib.hid (fun W => cmpCompare a.pSouth b.pSouth W)
  go_enter Try.func70, Try.ntmps70
  go_wp2
  generalize hW0 : (w.alloc (objCb a)).alloc (objCb b) = W0 at *
  have HW0 := Lib.hid hW0
  clear hW0 CW CS
  have cD := fun n os => Calls.gr_of (w := W0) (n := n) (os := os) ((cmpCompare a.pWest b.pWest _).mono fun e w' ⟨h, hw⟩ => ⟨h, hw ▸ Grew.refl _⟩)
  have cI := fun n os => Calls.gr_of (w := W0) (n := n) (os := os) ((cmpCompare a.pSouth b.pSouth _).mono fun e w' ⟨h, hw⟩ => ⟨h, hw ▸ Grew.refl _⟩)
  have r_a0 := cell_gr a0
  have r_a1 := cell_gr a1
  have r_b0 := cell_gr b0
  have r_b1 := cell_gr b1
  generalize cmpI a.pWest b.pWest = r1 at *
  generalize cmpI a.pSouth b.pSouth = r2 at *
  refine region_gr_tail 10 (by kernel_rfl) (by kernel_rfl) ?_
  simp only [List.take_succ_cons, List.take_zero, List.drop_succ_cons, List.drop_zero]
  repeat (go_big_quiet_step (first | with_reducible exact cD _ _ | with_reducible exact cI _ _))
  refine wpQuiet_nil ?_
  intro _ hw'
  obtain ⟨⟨nq, osq⟩, hw''⟩ := hw'
  subst hw''
  have GQ : Grew W0 (grow (W0.drewN nq) osq) := ⟨nq, osq, rfl⟩
  have G1 := G0.trans GQ
  generalize grow (W0.drewN nq) osq = w2 at *
  clear cD cI GQ r_a0 r_a1 r_b0 r_b1
  have bS := Bx.new w2 [.int .i64 r1, .int .i64 r2] 3
  have s0 := bS.2 0 _ rfl
  have s1 := bS.2 1 _ rfl
  go_wp2_with (go_at_call 71; refine (cmpOr r1 r2 _ _ s0 s1).mono ?_; rintro e wo ⟨rfl, rfl⟩)
  go_ret
  exact ⟨ret_int HR.out, G1.alloc _⟩
theorem arr_getCb (xs : List GCube) [Inhabited GCube] {i : Nat} {s : GCube} (h : xs[i]? = some s) : xs.toArray[i]! = s := by
  obtain ⟨hi, h2⟩ := List.getElem?_eq_some_iff.1 h
  rw [getElem!_pos xs.toArray i (by simpa using hi)]
  simpa using h2
theorem holdsCb {xs : List GCube} [Inhabited GCube] {w : World} {L B g off n cap : Nat} (h : OwnK encCube 5 w L B (.slice (some ⟨g, off, none⟩) n cap) xs) : HoldsK encCube 5 w g off xs.toArray := by
  intro j hj
  rw [size_flatK] at hj
  rw [get_flatK _ _ _ _ hj]
  obtain ⟨s, hs⟩ := get_of_lt (l := xs) (k := j / 5) (by have : xs.toArray.size = xs.length := rfl; omega)
  obtain ⟨-, -, -, tc, tf⟩ := h.at hs
  have hl : j % 5 < (encCube s).length := by rw [encCube_len]; omega
  have h1 := tc (j % 5) _ (List.getElem?_eq_getElem hl)
  have e1 : off + j / 5 * 5 + j % 5 = off + j := by omega
  rw [e1] at h1
  refine ⟨?_, tf _⟩
  show _ = some ((encCube (xs.toArray[j / 5]!))[j % 5]!)
  rw [arr_getCb xs hs, h1, getElem!_pos (encCube s) (j % 5) hl]
theorem froz_sortCb {α : Type} [Inhabited α] (enc : α → List Value) (k : Nat) (w : World) (blk off m : Nat) (dk : Array α) (os : Array Obj) {b o : Nat} (hb : b < w.heap.size) (h : w.frozen? ⟨b, o, none⟩ = false) : (sortWorldK enc k w blk off m dk os).frozen? ⟨b, o, none⟩ = false := by
  unfold sortWorldK putRowK
  have e : (grow (putRow id (Sort.ahead w m) blk off (flatK enc k dk)) os).heap[b]? = (putRow id (Sort.ahead w m) blk off (flatK enc k dk)).heap[b]? := heap_grow_old _ _ (by simpa using hb)
  rw [World.frozen?_of_block (w := putRow id (Sort.ahead w m) blk off (flatK enc k dk)) e, frozen?_putRow]
  exact h
theorem below_sortCb {α : Type} [Inhabited α] (enc : α → List Value) (k : Nat) {w : World} {L g off m : Nat} {dk : Array α} {os : Array Obj} (hL : L ≤ g) (hLw : L ≤ w.heap.size) : Below L w (sortWorldK enc k w g off m dk os) := by
  have hg : w.grownBy (sortWorldK enc k w g off m dk os) (some g) := by
    unfold sortWorldK putRowK
    refine ⟨rfl, rfl, rfl, by simp, fun k hk hne => ?_⟩
    rw [heap_grow_old _ _ (by simpa using hk)]
    have : g ≠ k := fun e => hne (by rw [e])
    simp [putRow, mapBlock, Sort.ahead, Array.getElem?_modify, this]
  exact Below.grown (Below.refl L w) hg hLw (fun q hq => by cases hq; exact hL)
theorem entersCb : ∀ args w, (callFunc 70 args).run Try.prog w = .ok (.enter 70 args) w := enters_of Try.func70 (by kernel_rfl) rfl
/-- The sort of the marks. -/
theorem sortCb {xs : List GCube} (hne : 0 < xs.length) (hlen : xs.length ≤ 1000) {w : World} {L g off cap : Nat} (ho : OwnK encCube 5 w L w.heap.size (.slice (some ⟨g, off, none⟩) xs.length cap) xs) :
    Calls Try.prog 69 #[.slice (some ⟨g, off, none⟩) xs.length cap, .func (.func 70) #[] #[]] w fun e w' => e = .returned (.tuple #[]) ∧ (∃ ys, ys.Perm xs ∧ ascCb ys ∧ OwnK encCube 5 w' L w'.heap.size (.slice (some ⟨g, off, none⟩) xs.length cap) ys) ∧ Below L w w' := by
  letI : Inhabited GCube := ⟨zeroCube⟩
  obtain ⟨s0, hs0⟩ := get_of_lt hne
  obtain ⟨hL, -, hblk, -, hfz⟩ := ho.at hs0
  have hH := holdsCb ho
  have hS := AnyQ.slices_SortFunc Try.sortK_69 5 Try.isAgg25 Try.sizeOf25 encCube encCube_len (fun x u hu => oneCube [x] u (by simpa using hu)) cfCb swoCb 70 #[] g off cap xs.toArray w entersCb (by intro m os dk _ a b; exact cloCb a b _) hH hblk (by have : xs.toArray.size = xs.length := rfl; omega)
  have hsz : xs.toArray.size = xs.length := rfl
  rw [hsz] at hS
  refine hS.mono ?_
  rintro e w' ⟨rfl, dk, m, os, hp, hs, rfl⟩
  obtain ⟨hs1, -, hs2⟩ := hp
  have hdk : dk.size = xs.length := hs1
  have hperm : dk.toList.Perm xs := by
    have a1 : dk.extract 0 xs.length = dk := by rw [← hdk]; simp
    have a2 : xs.toArray.extract 0 xs.length = xs.toArray := by rw [← hsz]; simp
    rw [a1, a2] at hs2
    simpa using hs2
  have hK := holdsK_sortWorldK_c encCube 5 w g off xs.toArray dk m os hH hblk hs1
  refine ⟨rfl, ⟨dk.toList, hperm, ?_, ?_⟩, below_sortCb encCube 5 hL (Nat.le_trans hL (Nat.le_of_lt hblk))⟩
  · unfold ascCb
    rw [List.pairwise_iff_getElem]
    intro i j hi hj hij
    have hi' : i < dk.size := by simpa using hi
    have hj' : j < dk.size := by simpa using hj
    have := ltCb_f.1 (hs i j (Nat.zero_le _) hij (by omega))
    rw [getElem!_pos dk j hj', getElem!_pos dk i hi'] at this
    simp only [Array.getElem_toList]
    exact Bool.eq_false_iff.2 this
  · obtain ⟨ao, cap', e1, hc1, hc2, hc3, -⟩ := ho
    simp only [Value.slice.injEq] at e1
    obtain ⟨rfl, -, rfl⟩ := e1
    have hl2 : dk.toList.length = xs.length := by simp [hdk]
    refine ⟨some ⟨g, off, none⟩, cap, by rw [hl2], by rw [hl2]; exact hc1, hc2, (fun e => by cases e), fun i x hx => ⟨g, off, rfl, hL, ?_, ?_, fun j c hj => ?_, fun o => froz_sortCb encCube 5 w g off m dk os hblk (hfz o)⟩⟩
    · exact Nat.lt_of_lt_of_le hblk (size_sortWorldK_c encCube 5 w g off m dk os)
    · exact Nat.lt_of_lt_of_le hblk (size_sortWorldK_c encCube 5 w g off m dk os)
    · have hi' := List.getElem?_eq_some_iff.1 hx
      have hil : i < dk.size := by simpa using hi'.1
      have hj' := List.getElem?_eq_some_iff.1 hj
      have hjl : j < 5 := by have := hj'.1; rwa [encCube_len] at this
      refine (hK.cell hil hjl).1.trans ?_
      have e9 : dk[i]! = x := by rw [getElem!_pos dk i hil]; simpa using hi'.2
      rw [e9, getElem!_pos (encCube x) j hj'.1, hj'.2]

end Go.Proofs.Ytoogofceoinniaa
