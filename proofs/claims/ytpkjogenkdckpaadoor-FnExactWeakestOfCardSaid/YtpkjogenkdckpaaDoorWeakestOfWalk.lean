/-
  Proved here: the law on WeakestOf answers true, for all arguments; condition: the six errors of chapter 3 lie where the program's text lays them.
-/
import Derived.Test.YtpkjogenkdckpaaDoorWeakI
import Derived.Test.YtpkjogenkdckpaaDoorYnS
import Derived.Test.YtpkjogenkdckpaaDoorYnFrac
namespace Go.Proofs.YtpkjogenkdckpaaDoor
open Go.ChangeShapes Go.WideShapes Go.ChangeAt Go.RowKit

theorem eqFr_same' (x y : Int) (w : World) : Calls Tryd.prog 29 #[.agg #[.int .i64 x, .int .i64 y], .agg #[.int .i64 x, .int .i64 y]] w fun e w' => e = .returned (.bool true) ∧ Below w.heap.size w w' := by
  have hx : (x != x) = false := by simp
  have hy : (y != y) = false := by simp
  go_enter Tryd.func29, Tryd.ntmps29
  go_wp2
  go_ret
  exact ⟨rfl, by go_grown⟩
/-- Two int64s at the head of a block. -/
def FAt (w : World) (b : Nat) (x y : Int) : Prop := w.cell? ⟨b, 0, none⟩ = some (.int .i64 x) ∧ w.cell? ⟨b, 1, none⟩ = some (.int .i64 y)
theorem FAt.below {w w' : World} {b B : Nat} {x y : Int} (h : FAt w b x y) (hB : Below B w w') (hb : b < B) : FAt w' b x y := ⟨kept hB hb h.1, kept hB hb h.2⟩

set_option linter.unusedVariables false in
set_option maxRecDepth 100000 in
set_option maxHeartbeats 4000000 in
theorem weakestOf_walk {H : Type} {enc : TypeId × Value → H} (w : World) (base : Nat)
    (v0 : Value) (d0 : DataW H) (p0 : List MemPlace) (o0 : Value.okWide Tryd.prog w .any base 37 v0) (k0 : DataW.Trod enc Tryd.prog w 0 (fun _ => true) true 37 v0 d0 p0)
    (p : Nat → Addr) (hs : Sent w p) :
    Calls Tryd.prog 8 #[v0] w fun e w' => e = .returned (.bool true) ∧ Below w.heap.size w w' := by
  obtain ⟨ys, hY, hm⟩ := open_argY o0 k0
  clear o0 k0
  obtain ⟨a0, c0, rfl⟩ := hY.len
  have HS := Lib.hid hs
  have HY := Lib.hid hY
  clear hs
  by_cases hn : ys.length ≤ 1048576
  · have Z1 := Lib.hid fun wx hx => szYarnS_any (.slice a0 ys.length c0) ys 1048576 wx hx (by omega) (by omega) (by omega)
    have hl1 : ¬ ((1048576 : Int) - (ys.length : Int) < 0) := by omega
    have cS := Lib.hid fun v wx hv => specWeak_any v ys wx hv hn
    have cI := Lib.hid fun v wx hs hv => implWeak_any p v ys wx hs hv hn
    obtain ⟨I, hI⟩ : ∃ I, (weakF ys).1 = I := ⟨_, rfl⟩
    obtain ⟨R0, hR0⟩ : ∃ R, (weakF ys).2.1 = R := ⟨_, rfl⟩
    obtain ⟨R1, hR1⟩ : ∃ R, (weakF ys).2.2.1 = R := ⟨_, rfl⟩
    obtain ⟨C, hC⟩ : ∃ C, (weakF ys).2.2.2 = C := ⟨_, rfl⟩
    rw [hI, hR0, hR1, hC] at cS cI
    clear hI hR0 hR1 hC hY
    have hii : (I != I) = false := by simp
    have hcc : (C != C) = false := by simp
    go_enter Tryd.func8, Tryd.ntmps8
    go_wp2_with fail
    refine (Z1.out _ HY.out).mono ?_
    rintro e w0 ⟨rfl, rfl⟩
    go_wp2_with fail
    refine (toYarnS_any _ ys _ HY.out hn).mono ?_
    rintro e w1 ⟨s1, rfl, own, hB⟩
    have T1 := Lib.hid hB
    have S1 := Lib.hid own
    clear hB own
    go_wp2_with fail
    refine (cS.out s1 w1 S1.out.yarns).mono ?_
    rintro e w2 ⟨rfl, hB⟩
    have T2 := Lib.hid (T1.out.trans (hB.mono T1.out.size))
    clear S1 hB
    go_wp2_with fail
    refine (toYarnS_any _ ys _ (HY.out.below (T2.out.alloc T2.out.size _)) hn).mono ?_
    rintro e w3 ⟨x0, rfl, own, hB⟩
    have hW : FAt w3 w2.heap.size R0 R1 := FAt.below (w := w2.alloc _) ⟨by simp [go_sem], by simp [go_sem]⟩ hB (by simp)
    have hz3 := hB.size
    simp only [World.size_alloc] at hz3
    have T3 := Lib.hid ((T2.out.alloc T2.out.size _).trans (hB.mono (by have := T2.out.size; simp; omega)))
    have X3 := Lib.hid own
    have HW := Lib.hid hW
    clear hB own hW
    go_wp2_with fail
    refine (cI.out x0 w3 (HS.out.below T3.out) X3.out.yarns).mono ?_
    rintro e w4 ⟨rfl, hB⟩
    have T4 := Lib.hid (T3.out.trans (hB.mono T3.out.size))
    have X4 := Lib.hid (X3.out.below hB)
    have hz4 := hB.size
    have hlt4 : w2.heap.size < w4.heap.size := by omega
    obtain ⟨e0, e1⟩ := HW.out.below hB (by omega)
    clear hB X3 HW
    go_wp2_with fail
    refine (eqFr_same' R0 R1 _).mono ?_
    rintro e w5 ⟨rfl, hB⟩
    have T5 := Lib.hid ((T4.out.alloc T4.out.size _).trans (hB.mono (by have := T4.out.size; simp; omega)))
    have X5 := Lib.hid ((X4.out.below ((Below.refl _ _).alloc (Nat.le_refl _) _)).below hB)
    clear hB X4 e0 e1
    go_wp2_with fail
    refine (toYarnS_any _ ys _ (HY.out.below T5.out) hn).mono ?_
    rintro e w6 ⟨y5, rfl, own, hB⟩
    have T6 := Lib.hid (T5.out.trans (hB.mono T5.out.size))
    have X6 := Lib.hid (X5.out.below hB)
    have Y6 := Lib.hid own
    clear hB X5 own
    go_wp2_with fail
    refine (eqYarnS_self x0 y5 ys w6 X6.out.yarns Y6.out.yarns (by omega)).mono ?_
    rintro e w7 ⟨rfl, hB⟩
    have T7 := Lib.hid (T6.out.trans (hB.mono T6.out.size))
    clear hB
    go_wp2_with fail
    go_ret
    exact ⟨rfl, T7.out⟩
  · have Z1 := Lib.hid fun wx hx => szYarnS_no (.slice a0 ys.length c0) ys 1048576 wx hx (by omega) (by omega) (by omega) hm
    clear hY
    go_enter Tryd.func8, Tryd.ntmps8
    go_wp2_with fail
    refine (Z1.out _ HY.out).mono ?_
    rintro e w0 ⟨rfl, rfl⟩
    go_wp2_with fail
    go_ret
    exact ⟨rfl, Below.refl _ _⟩
end Go.Proofs.YtpkjogenkdckpaaDoor
