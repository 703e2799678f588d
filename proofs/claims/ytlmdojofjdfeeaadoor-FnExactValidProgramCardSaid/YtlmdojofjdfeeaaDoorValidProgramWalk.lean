/-
  Proved here: the law on ValidProgram answers true, for all arguments; condition: the errors that it asks lie where the program's text lays them.
-/
import Derived.Test.YtlmdojofjdfeeaaDoorClI
import Derived.Deep.RegionHeld3
namespace Go.Proofs.YtlmdojofjdfeeaaDoor
open Go.ChangeShapes Go.WideShapes Go.ChangeAt Go.RowKit

/-- The arguments' boxes. -/
def LB (w w' : World) (t r c : Int) : Prop := w'.cell? ⟨w.heap.size, 0, none⟩ = some (.int .i8 t) ∧ w'.cell? ⟨w.heap.size, 1, none⟩ = some (.int .i8 r) ∧ w'.cell? ⟨w.heap.size, 2, none⟩ = some (.int .i8 c) ∧ Below w.heap.size w w'
theorem LB.id {w w' : World} {t r c : Int} (H : w'.cell? ⟨w.heap.size, 0, none⟩ = some (.int .i8 t) ∧ w'.cell? ⟨w.heap.size, 1, none⟩ = some (.int .i8 r) ∧ w'.cell? ⟨w.heap.size, 2, none⟩ = some (.int .i8 c) ∧ Below w.heap.size w w') : LB w w' t r c := H
theorem LB.bel {w w' : World} {t r c : Int} (H : LB w w' t r c) : Below w.heap.size w w' := H.2.2.2
theorem LB.next {w w1 w2 : World} {t r c : Int} (H : LB w w1 t r c) (hB : Below w1.heap.size w1 w2) : LB w w2 t r c := by
  obtain ⟨a0, a1, a2, z⟩ := H
  have k : ∀ {b o : Nat} {v : Value}, w1.cell? ⟨b, o, none⟩ = some v → w2.cell? ⟨b, o, none⟩ = some v := fun hc => kept hB (World.block_lt_of_cell? w1 _ hc) hc
  exact ⟨k a0, k a1, k a2, z.trans (hB.mono z.size)⟩
theorem LB.made (w : World) (t r c : Int) : LB w (w.alloc (.cells #[.int .i8 t, .int .i8 r, .int .i8 c] 31)) t r c := ⟨by simp [go_sem], by simp [go_sem], by simp [go_sem], by go_grown⟩

set_option linter.unusedVariables false in
set_option maxRecDepth 100000 in
set_option maxHeartbeats 8000000 in
theorem validProgram_walk {H : Type} {enc : TypeId × Value → H} (w : World) (base : Nat)
    (v0 : Value) (d0 : DataW H) (p0 : List MemPlace) (o0 : Value.okWide Tryd.prog w .any base 31 v0) (k0 : DataW.Trod enc Tryd.prog w 0 (fun _ => true) true 31 v0 d0 p0)
    (p : Nat → Addr) (hs : Sent3 w p) :
    Calls Tryd.prog 4 #[v0] w fun e w' => e = .returned (.bool true) ∧ Below w.heap.size w w' := by
  obtain ⟨t, r, c, rfl, ht, hr, hc⟩ := openProgram o0
  clear o0 k0
  have HS := Lib.hid hs
  have CS := Lib.hid fun wx => specValidProgram_any t r c wx ht hr hc
  have CI := Lib.hid fun wx (hs : Sent3 wx p) => validProgram_any p t r c wx hs ht hr hc
  have T0 := Lib.hid fun wx => toProgram_any t r c wx
  have L0 := Lib.hid (LB.made w t r c)
  clear ht hr hc hs
  generalize (okP t r c) = q0 at *
  have e0 : (q0 != q0) = false := by simp
  have f0 : (q0 == q0) = true := by simp
  go_enter Tryd.func4, Tryd.ntmps4
  obtain ⟨a0, a1, a2, _⟩ := L0.out
  go_wp2_with fail
  refine (T0.out _).mono ?_
  rintro e w1 ⟨rfl, hB⟩
  have L1 := Lib.hid (L0.out.next hB)
  clear hB a0 a1 a2
  go_wp2_with fail
  refine (CS.out _).mono ?_
  rintro e w2 ⟨rfl, hB⟩
  have L2 := Lib.hid (L1.out.next hB)
  clear hB
  obtain ⟨a0, a1, a2, _⟩ := L2.out
  go_wp2_with fail
  refine (T0.out _).mono ?_
  rintro e w3 ⟨rfl, hB⟩
  have L3 := Lib.hid (L2.out.next hB)
  clear hB a0 a1 a2
  go_wp2_with fail
  refine (CI.out _ (HS.out.below L3.out.bel)).mono ?_
  rintro e w4 ⟨rfl, hB⟩
  have L4 := Lib.hid (L3.out.next hB)
  clear hB
  go_wp2
  go_ret
  exact ⟨rfl, L4.out.bel⟩
end Go.Proofs.YtlmdojofjdfeeaaDoor
