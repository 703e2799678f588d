/-
  Proved here: the law on TiesFor answers true, for all arguments; condition: the six errors of chapter 3 lie where the program's text lays them.
-/
import Derived.Test.YtibkocbfcdddfaaDoorTies
import Derived.Test.YtibkocbfcdddfaaDoorIntsLaw
namespace Go.Proofs.YtibkocbfcdddfaaDoor
open Go.ChangeShapes Go.WideShapes Go.ChangeAt Go.RowKit

theorem apart_lt {v1 v2 : Value} {B : Nat} (h1 : ∀ k, v1.ownBlock = some k → k < B) (h2 : ∀ k, v2.ownBlock = some k → B ≤ k) : (v1.ownBlock = none ∨ v1.ownBlock ≠ v2.ownBlock) ∧ (v2.ownBlock = none ∨ v2.ownBlock ≠ v1.ownBlock) := by
  cases e1 : v1.ownBlock with
  | none => exact ⟨.inl rfl, by cases e2 : v2.ownBlock <;> simp⟩
  | some a =>
    have := h1 a e1
    cases e2 : v2.ownBlock with
    | none => exact ⟨.inr (by simp), .inl rfl⟩
    | some b =>
      have := h2 b e2
      exact ⟨.inr fun e => by have := Option.some.inj e; omega, .inr fun e => by have := Option.some.inj e; omega⟩

set_option linter.unusedVariables false in
set_option maxRecDepth 100000 in
set_option maxHeartbeats 4000000 in
theorem tiesFor_walk {H : Type} {enc : TypeId × Value → H} (w : World) (base : Nat)
    (v0 : Value) (d0 : DataW H) (p0 : List MemPlace) (o0 : Value.okWide Tryd.prog w .any base 2 v0) (k0 : DataW.Trod enc Tryd.prog w 0 (fun _ => true) true 2 v0 d0 p0)
    (v1 : Value) (d1 : DataW H) (p1 : List MemPlace) (o1 : Value.okWide Tryd.prog w .any base 2 v1) (k1 : DataW.Trod enc Tryd.prog w 0 (fun _ => true) true 2 v1 d1 p1)
    (p : Nat → Addr) (hs : Sent w p) :
    Calls Tryd.prog 4 #[v0, v1] w fun e w' => e = .returned (.bool true) ∧ Below w.heap.size w w' := by
  obtain ⟨x0, rfl, hx0⟩ := open_one Tryd.underlying2 o0
  clear o0 k0
  obtain ⟨x1, rfl, hx1⟩ := open_one Tryd.underlying2 o1
  clear o1 k1
  have HS := Lib.hid hs
  clear hs
  have hF := (tiesF_len x0 x1)
  have cS := Lib.hid fun  wx  => specTies_any   x0 x1 wx  
  have cI := Lib.hid fun  wx hs  => implTies_any p   x0 x1 wx hs  
  obtain ⟨F, hFe⟩ : ∃ F, (tiesF  x0 x1).1 = F := ⟨_, rfl⟩
  obtain ⟨C0, hC0⟩ : ∃ C, (tiesF  x0 x1).2 = C := ⟨_, rfl⟩
  rw [hFe, hC0] at cS cI
  rw [hFe] at hF
  clear hFe hC0 
  have hne0 : (C0 != C0) = false := by simp
  have hme : ((1 + (F.length : Int)) != (1 + (F.length : Int))) = false := by simp
  have HF := Lib.hid hF
  have hlt0 : ¬ ((1 : Int) < 0) := by omega
  have hlt1 : ¬ ((1 : Int) + (F.length : Int) < 0) := by omega
  have T0 := Lib.hid (Below.refl w.heap.size w)
  go_enter Tryd.func4, Tryd.ntmps4
  go_wp2_with fail
  refine (cS.out  w ).mono ?_
  rintro e w1 ⟨r0, rfl, own, hB⟩
  have T1 := Lib.hid (T0.out.trans (hB.mono T0.out.size))
  have Z1' := Lib.hid hB.size
  have R1 := Lib.hid own
  have NR := Lib.hid (show ∀ k, (r0).ownBlock = some k → w.heap.size ≤ k ∧ k < w1.heap.size from own.lt)
  clear hB own
  go_wp2_with fail
  refine (cI.out  w1 (HS.out.below T1.out) ).mono ?_
  rintro e w2 ⟨g0, rfl, own, hB⟩
  have T2 := Lib.hid (T1.out.trans (hB.mono T1.out.size))
  have Z2' := Lib.hid hB.size
  have R2 := Lib.hid (R1.out.below hB)
  have G2 := Lib.hid own
  have NG := Lib.hid (show ∀ k, (g0).ownBlock = some k → w1.heap.size ≤ k ∧ k < w2.heap.size from own.lt)
  clear hB R1 own
  have PRG := Lib.hid (apart_lt (v1 := r0) (v2 := g0) (B := w1.heap.size) (fun k hk => by have := (NR.out k hk).2; exact this) (fun k hk => by have h1 := (NG.out k hk).1; have h2 : w1.heap.size ≤ w1.heap.size := (by omega); omega))
  go_wp2_with fail
  refine (eqSelf_any g0 r0 F w2 G2.out.ints R2.out.ints HF.out).mono ?_
  rintro e w3 ⟨rfl, hB⟩
  have T3 := Lib.hid (T2.out.trans (hB.mono T2.out.size))
  have Z3' := Lib.hid hB.size
  have R3 := Lib.hid (R2.out.below hB)
  have G3 := Lib.hid (G2.out.below hB)
  clear hB R2 G2
  go_wp2_with fail
  refine (mark_any g0 F _ w3 1 G3.out HF.out (by omega) (by omega)).mono ?_
  rintro e w4 ⟨rfl, own, hg⟩
  have T4 := Lib.hid (T3.out.grown hg T3.out.size fun k hk => by have := (NG.out k hk).1; have := T1.out.size; omega)
  have R4 := Lib.hid (R3.out.kept hg PRG.out.1)
  have G4 := Lib.hid own
  clear hg own R3 G3
  go_wp2_with fail
  refine (held_any g0 F.length w4 1 G4.out.ints HF.out (by omega) (by omega)).mono ?_
  rintro e w5 ⟨rfl, hB⟩
  have T5 := Lib.hid (T4.out.trans (hB.mono T4.out.size))
  have Z5' := Lib.hid hB.size
  have R5 := Lib.hid (R4.out.below hB)
  have G5 := Lib.hid (G4.out.below hB)
  clear hB R4 G4
  go_wp2_with fail
  refine (cI.out  w5 (HS.out.below T5.out) ).mono ?_
  rintro e w6 ⟨h0, rfl, own, hB⟩
  have T6 := Lib.hid (T5.out.trans (hB.mono T5.out.size))
  have Z6' := Lib.hid hB.size
  have R6 := Lib.hid (R5.out.below hB)
  have G6 := Lib.hid (G5.out.below hB)
  have H6 := Lib.hid own
  clear hB R5 G5 own
  go_wp2_with fail
  refine (eqSelf_any h0 r0 F w6 H6.out.ints R6.out.ints HF.out).mono ?_
  rintro e w7 ⟨rfl, hB⟩
  have T7 := Lib.hid (T6.out.trans (hB.mono T6.out.size))
  have Z7' := Lib.hid hB.size
  have R7 := Lib.hid (R6.out.below hB)
  have G7 := Lib.hid (G6.out.below hB)
  clear hB R6 G6 H6
  go_wp2_with fail
  refine (held_any g0 F.length w7 1 G7.out.ints HF.out (by omega) (by omega)).mono ?_
  rintro e w8 ⟨rfl, hB⟩
  have T8 := Lib.hid (T7.out.trans (hB.mono T7.out.size))
  have Z8' := Lib.hid hB.size
  have R8 := Lib.hid (R7.out.below hB)
  have G8 := Lib.hid (G7.out.below hB)
  clear hB R7 G7
  go_wp2_with fail
  go_ret
  exact ⟨rfl, T8.out⟩
end Go.Proofs.YtibkocbfcdddfaaDoor
