/-
  Proved here: the law on FirstBadRow answers true, for all arguments; condition: the six errors of chapter 3 and the library's errorType lie where the program's text lays them.
-/
import Derived.Test.YtcdjabhdbobghaaDoorBrI
import Derived.Test.YtcdjabhdbobghaaDoorFab
namespace Go.Proofs.YtcdjabhdbobghaaDoor
open Go.ChangeShapes Go.WideShapes Go.ChangeAt Go.RowKit

set_option maxRecDepth 100000 in
theorem open_argT {H : Type} {enc : TypeId × Value → H} {w : World} {v : Value} {d : DataW H} {p : List MemPlace} {base : Nat} (o : Value.okWide Tryd.prog w .any base 23 v) (k : DataW.Trod enc Tryd.prog w 0 (fun _ => true) true 23 v d p) : ∃ L, Strs w v L ∧ L.length ≤ maxLen ∧ ∀ j, j < L.length → (L.getD j ByteArray.empty).size ≤ maxLen := by
  obtain ⟨m, hf⟩ := k
  have hag : ∀ cs, v ≠ .agg cs := by
    rintro cs rfl
    unfold Value.okWide at o
    rw [Tryd.underlying23] at o
    unfold Cell.okWide at o
    rw [Tryd.underlying23] at o
    unfold Cell.ok at o
    rw [Tryd.underlying23] at o
    simp at o
  have hc : v.cells.toList = [v] := by cases v <;> simp_all [Value.cells]
  exact open_texts (by rw [hc] at hf; exact hf)

set_option linter.unusedVariables false in
set_option maxRecDepth 100000 in
set_option maxHeartbeats 8000000 in
theorem firstBadRow_walk {H : Type} {enc : TypeId × Value → H} (w : World) (base : Nat)
    (v0 : Value) (d0 : DataW H) (p0 : List MemPlace) (o0 : Value.okWide Tryd.prog w .any base 2 v0) (k0 : DataW.Trod enc Tryd.prog w 0 (fun _ => true) true 2 v0 d0 p0)
    (v1 : Value) (d1 : DataW H) (p1 : List MemPlace) (o1 : Value.okWide Tryd.prog w .any base 23 v1) (k1 : DataW.Trod enc Tryd.prog w 0 (fun _ => true) true 23 v1 d1 p1)
    (p : Nat → Addr) (hs : Sent7 w p) :
    Calls Tryd.prog 5 #[v0, v1] w fun e w' => e = .returned (.bool true) ∧ Below w.heap.size w w' := by
  obtain ⟨x0, rfl, hx0⟩ := open_one Tryd.underlying2 o0
  clear o0 k0
  obtain ⟨L0, hA0, hm0, hz0⟩ := open_argT o1 k1
  clear o1 k1
  have HS := Lib.hid hs
  clear hs
  by_cases hw : weight L0 ≤ 1048576
  · have hn0 : L0.length ≤ 1048576 := by unfold weight at hw; omega
    have hsz0 : ∀ j, j < L0.length → (rowAt L0 j).size ≤ 1048576 := fun j hj => by have := size_of L0 j hj; unfold weight at hw; unfold rowAt; omega
    have HSZ := Lib.hid (szStrs_any v1 L0 1048576 w hA0 (by omega) (by omega) hm0 hz0)
    rw [if_pos (by omega)] at HSZ
    have cS := Lib.hid fun u wx (g : Strs wx u L0) => specFrow_any x0 u L0 wx g hn0 hsz0
    have cI := Lib.hid fun u wx (hs : Sent7 wx p) (g : Strs wx u L0) => implFrow_any p x0 u L0 wx hs g hn0 hsz0
    obtain ⟨C0, hC0⟩ : ∃ F, (frowF x0 L0).1 = F := ⟨_, rfl⟩
    obtain ⟨C1, hC1⟩ : ∃ F, (frowF x0 L0).2 = F := ⟨_, rfl⟩
    rw [hC0, hC1] at cS cI
    clear hC0 hC1
    have hne0 : (C0 != C0) = false := by simp
    have hne1 : (C1 != C1) = false := by simp
    obtain ⟨a0, q0, rfl⟩ := hA0.len
    have HA := Lib.hid hA0
    have HTo := Lib.hid fun wx (hB : Below w.heap.size w wx) => toStrs_any _ L0 wx (HA.out.below hB) hn0
    have HEq := Lib.hid fun a b wx ha hb => eqStrs_self a b L0 wx ha hb (by omega)
    have hlt : ¬ ((1048576 : Int) - (weight L0 : Int) < 0) := by omega
    clear hA0 hm0 hz0 hn0 hsz0 hw
    generalize weight L0 = wt at *
    go_enter Tryd.func5, Tryd.ntmps5
    go_wp2_with fail
    refine HSZ.out.mono ?_
    rintro e w1 ⟨rfl, rfl⟩
    go_wp2_with fail
    refine (HTo.out _ (Below.refl _ _)).mono ?_
    rintro e w2 ⟨u, rfl, own, hB⟩
    have B2 := Lib.hid hB
    have S2 := Lib.hid own.strs
    clear hB own
    go_wp2_with fail
    refine (cS.out _ _ S2.out).mono ?_
    rintro e w3 ⟨rfl, hB⟩
    have B3 := Lib.hid (B2.out.trans (hB.mono B2.out.size))
    clear hB S2 cS
    go_wp2_with fail
    refine (HTo.out _ B3.out).mono ?_
    rintro e w4 ⟨u, rfl, own, hB⟩
    obtain ⟨ua, uq, rfl⟩ := own.strs.len
    have B4 := Lib.hid (B3.out.trans (hB.mono B3.out.size))
    have U4 := Lib.hid own.strs
    clear hB own B3
    go_wp2_with fail
    refine (cI.out _ _ (HS.out.below B4.out) U4.out).mono ?_
    rintro e w6 ⟨rfl, hB⟩
    have B6 := Lib.hid (B4.out.trans (hB.mono B4.out.size))
    have U6 := Lib.hid (U4.out.below hB)
    clear hB U4 B4 cI
    go_wp2_with fail
    refine (HTo.out _ B6.out).mono ?_
    rintro e w7 ⟨u3, rfl, own, hB⟩
    have B7 := Lib.hid (B6.out.trans (hB.mono B6.out.size))
    have U7 := Lib.hid (U6.out.below hB)
    have V7 := Lib.hid own.strs
    clear hB own U6 B6
    go_wp2_with fail
    refine (HEq.out _ _ _ U7.out V7.out).mono ?_
    rintro e w8 ⟨rfl, hB⟩
    go_wp2
    go_ret
    exact ⟨rfl, by first | exact B7.out.trans (hB.mono B7.out.size) | (subst hB; exact B7.out)⟩
  · have HSZ := Lib.hid (szStrs_any v1 L0 1048576 w hA0 (by omega) (by omega) hm0 hz0)
    rw [if_neg (by omega)] at HSZ
    obtain ⟨a0, q0, rfl⟩ := hA0.len
    clear hA0 hm0 hz0 hw
    go_enter Tryd.func5, Tryd.ntmps5
    go_wp2_with fail
    refine HSZ.out.mono ?_
    rintro e w1 ⟨rfl, rfl⟩
    go_wp2
    go_ret
    exact ⟨rfl, Below.refl _ _⟩
end Go.Proofs.YtcdjabhdbobghaaDoor
