/-
  Proved here: the law on FabricText answers true, for all arguments; condition: the six errors of chapter 3 lie where the program's text lays them.
-/
import Derived.Test.YtcgcaghmpegehaaDoorFbT
import Derived.Test.YtcgcaghmpegehaaDoorFbI
import Derived.Test.YtcgcaghmpegehaaDoorFabW
namespace Go.Proofs.YtcgcaghmpegehaaDoor
open Go.ChangeShapes Go.WideShapes Go.ChangeAt Go.RowKit

set_option linter.unusedVariables false in
set_option maxRecDepth 100000 in
set_option maxHeartbeats 8000000 in
theorem fabricText_walk {H : Type} {enc : TypeId × Value → H} (w : World) (base : Nat)
    (v0 : Value) (d0 : DataW H) (p0 : List MemPlace) (o0 : Value.okWide Tryd.prog w .any base 25 v0) (k0 : DataW.Trod enc Tryd.prog w 0 (fun _ => true) true 25 v0 d0 p0)
    (p : Nat → Addr) (hs : Sent w p) (ht : Lib.TabIs Tryd.prog w "internal/strconv.uint64pow10" .u64 Lib.pow10Tab) :
    Calls Tryd.prog 3 #[v0] w fun e w' => e = .returned (.bool true) ∧ Below w.heap.size w w' := by
  obtain ⟨c0, s0, L0, rfl, hc0, hA0, hm0, hz0⟩ := open_fabric o0 k0
  clear o0 k0
  have HS := Lib.hid hs
  clear hs
  have HTB := Lib.hid ht
  clear ht
  by_cases hw : weight L0 ≤ 1048576
  · have hn0 : L0.length ≤ 1048576 := by unfold weight at hw; omega
    have hsz0 : ∀ j, j < L0.length → (rowAt L0 j).size ≤ 1048576 := fun j hj => by have := size_of L0 j hj; unfold weight at hw; unfold rowAt; omega
    have HSZ := Lib.hid fun wx hx => szFabric_yes c0 s0 L0 1048576 wx hx (by omega) (by omega) hm0 hz0 (by omega)
    have cS := Lib.hid fun u wx (g : Strs wx u L0) => specFbText_any c0 u L0 wx hc0 g hn0 hsz0
    have cI := Lib.hid fun u wx (hs : Sent wx p) (ht : Lib.TabIs Tryd.prog wx "internal/strconv.uint64pow10" .u64 Lib.pow10Tab) (g : Strs wx u L0) => implFbText_any p c0 u L0 wx hs ht hc0 g hn0 hsz0
    obtain ⟨C0, hC0⟩ : ∃ F, ((⟨(fbText c0 L0).toArray⟩ : ByteArray)) = F := ⟨_, rfl⟩
    rw [hC0] at cS cI
    clear hC0
    obtain ⟨a0, q0, rfl⟩ := hA0.len
    have HA := Lib.hid hA0
    have HTo := Lib.hid fun wx (hB : Below w.heap.size w wx) => toFabric_any c0 _ L0 wx (HA.out.below hB) hn0
    have HEq := Lib.hid fun a b wx ha hb => eqFabric_self c0 a b L0 wx ha hb (by omega)
    have X0 := Lib.hid (hb2_made w (.int .i16 c0) (.slice a0 L0.length q0) 25)
    have hlt : ¬ ((1048576 : Int) - (weight L0 : Int) < 0) := by omega
    clear hA0 hc0 hm0 hz0 hn0 hsz0 hw
    generalize weight L0 = wt at *
    go_enter Tryd.func3, Tryd.ntmps3
    go_wp2_with fail
    refine (HSZ.out _ (HA.out.below X0.out.2.2.1)).mono ?_
    rintro e w1 ⟨rfl, hB⟩
    have X1 := Lib.hid (hb2_id (hb2_next X0.out hB))
    clear hB X0 HSZ
    obtain ⟨p0, p1, _, _⟩ := X1.out
    go_wp2_with fail
    refine (HTo.out _ X1.out.2.2.1).mono ?_
    rintro e w2 ⟨u, rfl, own, hB⟩
    have X2 := Lib.hid (hb2_id (hb2_next X1.out hB))
    have S2 := Lib.hid own.strs
    clear p0 p1 hB own X1
    obtain ⟨p0, p1, _, _⟩ := X2.out
    go_wp2_with fail
    refine (cS.out _ _ S2.out).mono ?_
    rintro e w3 ⟨rfl, hB⟩
    have X3 := Lib.hid (hb2_id (hb2_next X2.out hB))
    clear p0 p1 hB S2 X2 cS
    obtain ⟨p0, p1, _, _⟩ := X3.out
    go_wp2_with fail
    refine (HTo.out _ X3.out.2.2.1).mono ?_
    rintro e w4 ⟨u, rfl, own, hB⟩
    obtain ⟨ua, uq, rfl⟩ := own.strs.len
    have X4 := Lib.hid (hb2_id (hb2_next X3.out hB))
    have A4 : Below w4.heap.size w4 (w4.alloc (.cells #[.int .i16 c0, .slice ua L0.length uq] 28)) := (Below.refl _ _).alloc (Nat.le_refl _) _
    have X5 := Lib.hid (hb2_id (hb2_next X4.out A4))
    have Y5 := Lib.hid (hb2_at (x := .int .i16 c0) (y := .slice ua L0.length uq) X4.out.2.2.1 28)
    have U5 := Lib.hid (own.strs.below A4)
    clear p0 p1 hB own X3 X4 A4
    obtain ⟨p0, p1, _, _⟩ := X5.out
    go_wp2_with fail
    generalize w4.alloc (.cells #[.int .i16 c0, .slice ua L0.length uq] 28) = w5 at *
    generalize w4.heap.size = yb at *
    refine (cI.out _ _ (HS.out.below X5.out.2.2.1) (tab_below HTB.out X5.out.2.2.1) U5.out).mono ?_
    rintro e w6 ⟨rfl, hB⟩
    have X6 := Lib.hid (hb2_id (hb2_next X5.out hB))
    have Y6 := Lib.hid (hb2_id (hb2_next Y5.out hB))
    have U6 := Lib.hid ((U5.out.below hB).below (Below.refl w6.heap.size w6).drew)
    clear p0 p1 hB X5 Y5 U5 cI
    obtain ⟨p0, p1, _, _⟩ := X6.out
    obtain ⟨r0, r1, _, _⟩ := Y6.out
    go_wp2_with fail
    go_region_held3 (fun w' => w'.cell? ⟨w.heap.size, 0, none⟩ = some (.int .i16 c0) ∧ w'.cell? ⟨w.heap.size, 1, none⟩ = some (.slice a0 L0.length q0) ∧ w'.cell? ⟨yb, 0, none⟩ = some (.int .i16 c0) ∧ w'.cell? ⟨yb, 1, none⟩ = some (.slice ua L0.length uq) ∧ Below w.heap.size w w' ∧ w.heap.size < w'.heap.size ∧ yb < w'.heap.size)
      (first | assumption | exact hb4_start X6.out Y6.out | (refine hb4_next ?_ hB7; assumption) | (refine hb4_next ?_ hB8; assumption))
      (first | (go_at_call 6; refine (HTo.out _ (hb4_below (w := w) (b := w.heap.size) (d := yb) (by assumption))).mono ?_; rintro e w7 ⟨u3, rfl, own3, hB7⟩) | (go_at_call 8; refine (HEq.out _ _ _ (U6.out.below hB7) own3.strs).mono ?_; rintro e w8 ⟨rfl, hB8⟩) | fail)
    all_goals
      have HE := Lib.hid (hb4_below (w := w) (b := w.heap.size) (d := yb) (by assumption))
      go_wp2
      go_ret
      exact ⟨rfl, HE.out⟩
  · have HSZ := Lib.hid fun wx hx => szFabric_no c0 s0 L0 1048576 wx hx (by omega) (by omega) hm0 hz0 (by omega)
    have HA := Lib.hid hA0
    obtain ⟨a0, q0, rfl⟩ := hA0.len
    have X0 := Lib.hid (hb2_made w (.int .i16 c0) (.slice a0 L0.length q0) 25)
    clear hA0 hc0 hm0 hz0 hw
    go_enter Tryd.func3, Tryd.ntmps3
    go_wp2_with fail
    refine (HSZ.out _ (HA.out.below X0.out.2.2.1)).mono ?_
    rintro e w1 ⟨rfl, hB⟩
    have X1 := Lib.hid (hb2_id (hb2_next X0.out hB))
    clear hB X0
    go_wp2
    go_ret
    exact ⟨rfl, X1.out.2.2.1⟩
end Go.Proofs.YtcgcaghmpegehaaDoor
