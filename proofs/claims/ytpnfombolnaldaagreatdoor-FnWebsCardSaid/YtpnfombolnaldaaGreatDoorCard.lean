/-
  No statement is proved here: the passes that the program lays into its table; condition: a valid web, from 0 to 100 percent.
-/
import Derived.Test.YtpnfombolnaldaaGreatDoorPass
import Derived.Deep.RegionHeld3
namespace Go.Proofs.YtpnfombolnaldaaGreatDoor
open Go.ChangeShapes Go.WideShapes Go.ChangeAt Go.RowKit

set_option maxRecDepth 100000 in
set_option maxHeartbeats 1000000 in
theorem cardR_any (v : Value) (zs : List Int) (base : Nat) (w : World) (ho : Own w base v zs) (hok : okW zs = true) :
    Calls Tryz.prog 70 #[v] w fun e w' => ∃ r, e = .returned (.tuple #[r, .int .i64 0]) ∧ Own w' w.heap.size r (rollL zs (rollP 1 zs.length)) ∧ Below w.heap.size w w' := by
  have HR := Lib.hid (rolled_any v zs 1 base w ho hok (by show (-9223372036854775808 : Int) ≤ 1 ∧ (1 : Int) ≤ 9223372036854775807; omega))
  clear ho hok
  go_enter Tryz.func70, Tryz.ntmps70
  go_wp2_with fail
  refine HR.out.mono ?_
  rintro e w' ⟨r, rfl, own, hB⟩
  go_wp2_with fail
  go_returns
  exact ⟨_, rfl, own, hB⟩

theorem heldC {w w1 w2 : World} {b1 bp : Nat} {x y : Value} (l1 : b1 < w.heap.size) (l2 : bp < w.heap.size)
    (h : w1.cell? ⟨b1, 0, none⟩ = some x ∧ w1.cell? ⟨bp, 0, none⟩ = some y ∧ Below w.heap.size w w1) (hB : Below w1.heap.size w1 w2) :
    w2.cell? ⟨b1, 0, none⟩ = some x ∧ w2.cell? ⟨bp, 0, none⟩ = some y ∧ Below w.heap.size w w2 := by
  have hs := h.2.2.size
  exact ⟨kept hB (by omega) h.1, kept hB (by omega) h.2.1, h.2.2.trans (hB.mono hs)⟩

set_option maxRecDepth 100000 in
set_option maxHeartbeats 4000000 in
theorem card_f (v : Value) (zs : List Int) (p : Int) (b1 bp base : Nat) (w : World) (ho : Own w base v zs) (hok : okW zs = true) (hp : 0 ≤ p) (hp' : p ≤ 100)
    (c1 : w.cell? ⟨b1, 0, none⟩ = some (.func (Fn.func 51) #[] #[])) (c2 : w.cell? ⟨bp, 0, none⟩ = some (.int .i64 p)) (l1 : b1 < w.heap.size) (l2 : bp < w.heap.size) :
    Calls Tryz.prog 71 #[v, .pointer (some ⟨b1, 0, none⟩), .pointer (some ⟨bp, 0, none⟩)] w fun e w' => ∃ r, e = .returned (.tuple #[r, .int .i64 (fallW p true zs)]) ∧ Own w' w.heap.size r (cardW p true zs) ∧ Below w.heap.size w w' := by
  have hl := okW_len hok
  have H1 := Lib.hid fun wx (hx : Own wx base v zs) => folded_any v zs base wx hx hok
  have H2 := Lib.hid fun r wx (hx : Ints wx r (dblTo zs true (zs.length / 2))) => drawnOut_any r _ wx hx (by rw [dblTo_length]; omega) (by rw [dblTo_length]; omega) (dbl_up hok)
  have H3 := Lib.hid fun r wx (hx : Ints wx r (laid true zs)) => shed_any r (laid true zs) p wx hx (laid_ok hok) hp hp'
  rw [laid_length hok] at H3
  have HO := Lib.hid ho
  have L1 := Lib.hid l1
  have L2 := Lib.hid l2
  clear ho hok hl l1 l2 hp hp'
  go_enter Tryz.func71, Tryz.ntmps71
  go_wp2_with fail
  go_region_held3 (fun w' => w'.cell? ⟨b1, 0, none⟩ = some (.func (Fn.func 51) #[] #[]) ∧ w'.cell? ⟨bp, 0, none⟩ = some (.int .i64 p) ∧ Below w.heap.size w w')
    (first | exact ⟨c1, c2, (Below.refl _ _).drew⟩ | assumption | (refine heldC L1.out L2.out ?_ hB; assumption))
    (first | (go_at_call 51; refine (H1.out _ (HO.out.below (And.right (And.right (by assumption))))).mono ?_; rintro e wa ⟨r1, rfl, own1, hB⟩) | (go_at_call 54; refine (H2.out _ _ own1.ints).mono ?_; rintro e wb ⟨r2, rfl, own2, hB⟩) | (go_at_call 72; refine (H3.out _ _ own2.ints).mono ?_; rintro e wc ⟨r3, rfl, own3, hB⟩))
  rename_i hS
  have hs1 : w.drew.heap.size ≤ wa.heap.size := (show Below w.drew.heap.size w.drew wa by assumption).size
  have hs2 : wa.heap.size ≤ wb.heap.size := (show Below wa.heap.size wa wb by assumption).size
  have hs0 : w.heap.size ≤ w.drew.heap.size := Nat.le_refl _
  go_wp2_with fail
  go_returns
  exact ⟨_, rfl, own3.mono (by omega), hS.2.2⟩

set_option maxRecDepth 100000 in
set_option maxHeartbeats 4000000 in
theorem card_c (v : Value) (zs : List Int) (p : Int) (b1 bp base : Nat) (w : World) (ho : Own w base v zs) (hok : okW zs = true) (hp : 0 ≤ p) (hp' : p ≤ 100)
    (c1 : w.cell? ⟨b1, 0, none⟩ = some (.func (Fn.func 53) #[] #[])) (c2 : w.cell? ⟨bp, 0, none⟩ = some (.int .i64 p)) (l1 : b1 < w.heap.size) (l2 : bp < w.heap.size) :
    Calls Tryz.prog 71 #[v, .pointer (some ⟨b1, 0, none⟩), .pointer (some ⟨bp, 0, none⟩)] w fun e w' => ∃ r, e = .returned (.tuple #[r, .int .i64 (fallW p false zs)]) ∧ Own w' w.heap.size r (cardW p false zs) ∧ Below w.heap.size w w' := by
  have hl := okW_len hok
  have H1 := Lib.hid fun wx (hx : Own wx base v zs) => crossed_any v zs base wx hx hok
  have H2 := Lib.hid fun r wx (hx : Ints wx r (dblTo zs false (zs.length / 2))) => drawnOut_any r _ wx hx (by rw [dblTo_length]; omega) (by rw [dblTo_length]; omega) (dbl_up hok)
  have H3 := Lib.hid fun r wx (hx : Ints wx r (laid false zs)) => shed_any r (laid false zs) p wx hx (laid_ok hok) hp hp'
  rw [laid_length hok] at H3
  have HO := Lib.hid ho
  have L1 := Lib.hid l1
  have L2 := Lib.hid l2
  clear ho hok hl l1 l2 hp hp'
  go_enter Tryz.func71, Tryz.ntmps71
  go_wp2_with fail
  go_region_held3 (fun w' => w'.cell? ⟨b1, 0, none⟩ = some (.func (Fn.func 53) #[] #[]) ∧ w'.cell? ⟨bp, 0, none⟩ = some (.int .i64 p) ∧ Below w.heap.size w w')
    (first | exact ⟨c1, c2, (Below.refl _ _).drew⟩ | assumption | (refine heldC L1.out L2.out ?_ hB; assumption))
    (first | (go_at_call 53; refine (H1.out _ (HO.out.below (And.right (And.right (by assumption))))).mono ?_; rintro e wa ⟨r1, rfl, own1, hB⟩) | (go_at_call 54; refine (H2.out _ _ own1.ints).mono ?_; rintro e wb ⟨r2, rfl, own2, hB⟩) | (go_at_call 72; refine (H3.out _ _ own2.ints).mono ?_; rintro e wc ⟨r3, rfl, own3, hB⟩))
  rename_i hS
  have hs1 : w.drew.heap.size ≤ wa.heap.size := (show Below w.drew.heap.size w.drew wa by assumption).size
  have hs2 : wa.heap.size ≤ wb.heap.size := (show Below wa.heap.size wa wb by assumption).size
  have hs0 : w.heap.size ≤ w.drew.heap.size := Nat.le_refl _
  go_wp2_with fail
  go_returns
  exact ⟨_, rfl, own3.mono (by omega), hS.2.2⟩

end Go.Proofs.YtpnfombolnaldaaGreatDoor
