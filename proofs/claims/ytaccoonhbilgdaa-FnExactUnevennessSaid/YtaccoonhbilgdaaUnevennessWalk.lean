/-
  Proved here: the law on Unevenness answers true, for all arguments; no condition.
-/
import Derived.Test.YtaccoonhbilgdaaUnevenI
namespace Go.Proofs.Ytaccoonhbilgdaa
open Go.ChangeShapes Go.WideShapes Go.ChangeAt Go.RowKit

theorem eqFr_same (x y : Int) (w : World) : Calls Try.prog 25 #[.agg #[.int .i64 x, .int .i64 y], .agg #[.int .i64 x, .int .i64 y]] w fun e w' => e = .returned (.bool true) ∧ Below w.heap.size w w' := by
  have hx : (x != x) = false := by simp
  have hy : (y != y) = false := by simp
  go_enter Try.func25, Try.ntmps25
  go_wp2
  go_ret
  exact ⟨rfl, by go_grown⟩

set_option linter.unusedVariables false in
set_option maxRecDepth 100000 in
set_option maxHeartbeats 4000000 in
theorem unevenness_walk {H : Type} {enc : TypeId × Value → H} (w : World) (base : Nat)
    (v0 : Value) (d0 : DataW H) (p0 : List MemPlace) (o0 : Value.okWide Try.prog w .any base 22 v0) (k0 : DataW.Trod enc Try.prog w 0 (fun _ => true) true 22 v0 d0 p0) :
    Calls Try.prog 6 #[v0] w fun e w' => e = .returned (.bool true) ∧ Below w.heap.size w w' := by
  obtain ⟨zs, hA⟩ := open_arg o0 k0
  clear o0 k0
  obtain ⟨a0, c0, rfl⟩ := hA.len
  by_cases hn : zs.length ≤ 1048576
  · have cS := Lib.hid fun v wx hv => specUn_any v zs wx hv hn
    have cI := Lib.hid fun v wx hv => implUn_any v zs wx hv hn
    obtain ⟨x, hx⟩ : ∃ x, (unF zs).1 = x := ⟨_, rfl⟩
    obtain ⟨y, hy⟩ : ∃ y, (unF zs).2.1 = y := ⟨_, rfl⟩
    obtain ⟨C, hCe⟩ : ∃ C, (unF zs).2.2 = C := ⟨_, rfl⟩
    rw [hx, hy, hCe] at cS cI
    clear hx hy hCe
    have hne : (C != C) = false := by simp
    have HA := Lib.hid hA
    clear hA
    go_enter Try.func6, Try.ntmps6
    go_wp2_with fail
    refine (toInts_any _ zs _ HA.out hn).mono ?_
    rintro e w1 ⟨s1, rfl, os1, hB1⟩
    have T1 := Lib.hid hB1
    have S1 := Lib.hid os1
    clear hB1 os1
    go_wp2_with fail
    refine (cS.out s1 w1 S1.out.ints).mono ?_
    rintro e w2 ⟨rfl, hB2⟩
    have T2 := Lib.hid (T1.out.trans (hB2.mono T1.out.size))
    clear S1 hB2
    go_wp2_with fail
    refine (toInts_any _ zs _ (HA.out.below (T2.out.alloc T2.out.size _)) hn).mono ?_
    rintro e w3 ⟨x0, rfl, ox3, hB3⟩
    have T3 := Lib.hid ((T2.out.alloc T2.out.size _).trans (hB3.mono (by have := T2.out.size; simp; omega)))
    have X3 := Lib.hid ox3
    have c30 : w3.cell? ⟨w2.heap.size, 0, none⟩ = some (.int .i64 x) := (hB3.cell (p := ⟨w2.heap.size, 0, none⟩) (by simp)).trans (by simp [go_sem])
    have c31 : w3.cell? ⟨w2.heap.size, 1, none⟩ = some (.int .i64 y) := (hB3.cell (p := ⟨w2.heap.size, 1, none⟩) (by simp)).trans (by simp [go_sem])
    have hs3 := hB3.size
    simp only [World.size_alloc] at hs3
    have C30 := Lib.hid c30
    have C31 := Lib.hid c31
    clear hB3 ox3 c30 c31
    go_wp2_with fail
    refine (cI.out x0 w3 X3.out.ints).mono ?_
    rintro e w4 ⟨rfl, hB4⟩
    have T4 := Lib.hid (T3.out.trans (hB4.mono T3.out.size))
    have X4 := Lib.hid (X3.out.below hB4)
    have c40 : w4.cell? ⟨w2.heap.size, 0, none⟩ = some (.int .i64 x) := (hB4.cell (p := ⟨w2.heap.size, 0, none⟩) (by exact hs3)).trans C30.out
    have c41 : w4.cell? ⟨w2.heap.size, 1, none⟩ = some (.int .i64 y) := (hB4.cell (p := ⟨w2.heap.size, 1, none⟩) (by exact hs3)).trans C31.out
    have hs4 := hB4.size
    have hlt : w2.heap.size < w4.heap.size := by omega
    clear hB4 X3
    go_wp2_with fail
    refine (eqFr_same x y _).mono ?_
    rintro e w5 ⟨rfl, hB5⟩
    have T5 := Lib.hid ((T4.out.alloc T4.out.size _).trans (hB5.mono (by have := T4.out.size; simp; omega)))
    have X5 := Lib.hid ((X4.out.below ((Below.refl _ _).alloc (Nat.le_refl _) _)).below hB5)
    clear hB5 X4 c40 c41
    go_wp2_with fail
    refine (toInts_any _ zs _ (HA.out.below T5.out) hn).mono ?_
    rintro e w6 ⟨y6, rfl, oy6, hB6⟩
    have T6 := Lib.hid (T5.out.trans (hB6.mono T5.out.size))
    have X6 := Lib.hid (X5.out.below hB6)
    have Y6 := Lib.hid oy6
    clear hB6 X5 oy6
    go_wp2_with fail
    refine (eqSelf_any x0 y6 zs w6 X6.out.ints Y6.out.ints (by omega)).mono ?_
    rintro e w7 ⟨rfl, hB7⟩
    have T7 := Lib.hid (T6.out.trans (hB7.mono T6.out.size))
    clear hB7
    go_wp2_with fail
    go_ret
    exact ⟨rfl, T7.out⟩
  · have hgt : (1048576 : Int) < (zs.length : Int) := by omega
    go_enter Try.func6, Try.ntmps6
    go_wp2_with fail
    go_ret
    exact ⟨rfl, Below.refl _ _⟩
end Go.Proofs.Ytaccoonhbilgdaa
