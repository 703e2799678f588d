/-
  Proved here: the law on FromOf answers true, for all arguments; condition: the six errors of chapter 3 lie where the program's text lays them.
-/
import Derived.Test.YtcdjabhdbobghaaDoorFoS
import Derived.Test.YtcdjabhdbobghaaDoorFoI
import Derived.Test.YtcdjabhdbobghaaDoorLpO
import Derived.Test.YtcdjabhdbobghaaDoorFabL
namespace Go.Proofs.YtcdjabhdbobghaaDoor
open Go.ChangeShapes Go.WideShapes Go.ChangeAt Go.RowKit

set_option linter.unusedVariables false in
set_option maxRecDepth 100000 in
set_option maxHeartbeats 16000000 in
theorem fromOf_walk {H : Type} {enc : TypeId × Value → H} (w : World) (base : Nat)
    (v0 : Value) (d0 : DataW H) (p0 : List MemPlace) (o0 : Value.okWide Tryd.prog w .any base 25 v0) (k0 : DataW.Trod enc Tryd.prog w 0 (fun _ => true) true 25 v0 d0 p0)
    (v1 : Value) (d1 : DataW H) (p1 : List MemPlace) (o1 : Value.okWide Tryd.prog w .any base 27 v1) (k1 : DataW.Trod enc Tryd.prog w 0 (fun _ => true) true 27 v1 d1 p1)
    (p : Nat → Addr) (hs : Sent w p) :
    Calls Tryd.prog 4 #[v0, v1] w fun e w' => e = .returned (.bool true) ∧ Below w.heap.size w w' := by
  obtain ⟨c0, s0, L0, rfl, hc0, hA0, hm0, hz0⟩ := open_fabric o0 k0
  clear o0 k0
  obtain ⟨y1, z1, rfl, hx1⟩ := open_loop o1
  clear o1 k1
  have HS := Lib.hid hs
  clear hs
  by_cases hw : weight L0 ≤ 1048576
  · have hn0 : L0.length ≤ 1048576 := by unfold weight at hw; omega
    have hsz0 : ∀ j, j < L0.length → (rowAt L0 j).size ≤ 1048576 := fun j hj => by have := size_of L0 j hj; unfold weight at hw; unfold rowAt; omega
    have HSZ := Lib.hid fun wx hx => szFabric_yes c0 s0 L0 1048576 wx hx (by omega) (by omega) hm0 hz0 (by omega)
    have hF := fromF_len (c := c0) (L := L0) (r := y1) (a := z1) hn0
    have cS := Lib.hid fun u wx (g : Strs wx u L0) => specFrom_any c0 u L0 y1 z1 wx hc0 g hn0 hsz0 hx1.1 hx1.2
    have cI := Lib.hid fun u wx (hs : Sent wx p) (g : Strs wx u L0) => implFrom_any p c0 u L0 y1 z1 wx hs hc0 g hn0 hsz0 hx1.1 hx1.2
    obtain ⟨F, hFe⟩ : ∃ F, (fromF c0 L0 y1 z1).1 = F := ⟨_, rfl⟩
    obtain ⟨C1, hC1e⟩ : ∃ F, (fromF c0 L0 y1 z1).2 = F := ⟨_, rfl⟩
    rw [hFe, hC1e] at cS cI
    rw [hFe] at hF
    clear hFe hC1e
    have hne1 : (C1 != C1) = false := by simp
    have hme : ((1 + (F.length : Int)) != (1 + (F.length : Int))) = false := by simp
    have hlt0 : ¬ ((1 : Int) + (L0.length : Int) < 0) := by omega
    have hlt1 : ¬ ((1 : Int) + (F.length : Int) < 0) := by omega
    have HF := Lib.hid hF
    have HMk := Lib.hid fun v base wx (h : OwnT wx base v L0) => markFabric_any c0 v L0 base wx 1 h (by omega) (by omega) (by omega)
    have hL1 : (L0.length : Int) ≤ 1048576 := by omega
    have hF1 : (F.length : Int) ≤ 2097152 := by omega
    obtain ⟨a0, q0, rfl⟩ := hA0.len
    have HA := Lib.hid hA0
    have HTo := Lib.hid fun wx (hB : Below w.heap.size w wx) => toFabric_any c0 _ L0 wx (HA.out.below hB) hn0
    have HLo := Lib.hid fun wx => toLoop_any y1 z1 wx
    have HEq := Lib.hid fun a b wx ha hb => eqFabric_self c0 a b L0 wx ha hb (by omega)
    have X0 := Lib.hid (hb_two w (.int .i16 c0) (.slice a0 L0.length q0) (.int .i16 y1) (.int .i16 z1) 25 27).1
    have Z0 := Lib.hid (hb_two w (.int .i16 c0) (.slice a0 L0.length q0) (.int .i16 y1) (.int .i16 z1) 25 27).2
    have hlt : ¬ ((1048576 : Int) - (weight L0 : Int) < 0) := by omega
    clear hA0 hc0 hm0 hz0 hn0 hsz0 hw hx1 hF
    generalize weight L0 = wt at *
    go_enter Tryd.func4, Tryd.ntmps4
    go_wp2_with fail
    refine (HSZ.out _ (HA.out.below X0.out.2.2.1)).mono ?_
    rintro e w1 ⟨rfl, hB⟩
    have X1 := Lib.hid (hb2_id (hb2_next X0.out hB))
    have Z1 := Lib.hid (hb2_id (hb2_next Z0.out hB))
    clear hB X0 Z0 HSZ
    obtain ⟨p0, p1, _, _⟩ := X1.out
    obtain ⟨l0, l1, _, _⟩ := Z1.out
    go_wp2_with fail
    go_region_held3 (fun w' => w'.cell? ⟨w.heap.size, 0, none⟩ = some (.int .i16 c0) ∧ w'.cell? ⟨w.heap.size, 1, none⟩ = some (.slice a0 L0.length q0) ∧ w'.cell? ⟨w.heap.size + 1, 0, none⟩ = some (.int .i16 y1) ∧ w'.cell? ⟨w.heap.size + 1, 1, none⟩ = some (.int .i16 z1) ∧ Below w.heap.size w w' ∧ Below w1.heap.size w1 w' ∧ w.heap.size < w'.heap.size ∧ w.heap.size + 1 < w'.heap.size)
      (first | assumption | exact hb4v_start X1.out Z1.out | (refine hb4v_next ?_ hB7; assumption) | (refine hb4v_next ?_ hB8; assumption) | (refine hb4v_next ?_ hB9; assumption))
      (first | (go_at_call 8; refine (HTo.out _ (hb4v_below (w := w) (V := w1) (b := w.heap.size) (d := w.heap.size + 1) (by assumption)).1).mono ?_; rintro e w7 ⟨u3, rfl, own3, hB7⟩) | (go_at_call 9; refine (HLo.out _).mono ?_; rintro e w8 ⟨rfl, hB8⟩) | (go_at_call 12; refine (cS.out _ _ (by first | exact own3.strs | exact own3.strs.below hB8)).mono ?_; rintro e w9 ⟨r0, rfl, own, hB9⟩; have hown9 : Own w9 w1.heap.size r0 F := Own.mono own (hb4v_size (w := w) (V := w1) (b := w.heap.size) (d := w.heap.size + 1) (by assumption))) | fail)
    all_goals
      have R3 := Lib.hid hown9
      have NR := Lib.hid (show ∀ k, r0.ownBlock = some k → w1.heap.size ≤ k ∧ k < w9.heap.size from R3.out.lt)
      have HE := hb4v_get (w := w) (V := w1) (b := w.heap.size) (d := w.heap.size + 1) (W := w9) (by assumption)
      have X3 := Lib.hid HE.1
      have Z3 := Lib.hid HE.2.1
      clear HE own hown9
      clear X1 Z1 p0 p1 l0 l1 own3 hB7 hB8 hB9 cS
      obtain ⟨p0, p1, _, _⟩ := X3.out
      obtain ⟨l0, l1, _, _⟩ := Z3.out
      go_wp2_with fail
      refine (HTo.out _ X3.out.2.2.1).mono ?_
      rintro e w4 ⟨u, rfl, own, hB⟩
      obtain ⟨ua, uq, rfl⟩ := own.strs.len
      have X4 := Lib.hid (hb2_id (hb2_next X3.out hB))
      have Z4 := Lib.hid (hb2_id (hb2_next Z3.out hB))
      have A4 : Below w4.heap.size w4 (w4.alloc (.cells #[.int .i16 c0, .slice ua L0.length uq] 31)) := (Below.refl _ _).alloc (Nat.le_refl _) _
      have X5 := Lib.hid (hb2_id (hb2_next X4.out A4))
      have Z5 := Lib.hid (hb2_id (hb2_next Z4.out A4))
      have Y5 := Lib.hid (hb2_at (x := .int .i16 c0) (y := .slice ua L0.length uq) X4.out.2.2.1 31)
      have U5 := Lib.hid (own.below A4)
      have R5 := Lib.hid ((R3.out.below hB).below A4)
      have NU := Lib.hid (show ∀ k, (Value.slice ua L0.length uq).ownBlock = some k → w9.heap.size ≤ k ∧ k < w4.heap.size from own.lt)
      have Z23 := Lib.hid (show w.heap.size + 1 < w9.heap.size ∧ w9.heap.size ≤ w4.heap.size ∧ w4.heap.size < (w4.alloc (.cells #[.int .i16 c0, .slice ua L0.length uq] 31)).heap.size from ⟨Z3.out.2.2.2, hB.size, by simp⟩)
      clear R3
      clear p0 p1 l0 l1 hB own X3 Z3 X4 Z4 A4
      obtain ⟨p0, p1, _, _⟩ := X5.out
      obtain ⟨l0, l1, _, _⟩ := Z5.out
      obtain ⟨y0, y1', _, _⟩ := Y5.out
      go_wp2_with fail
      generalize w4.alloc (.cells #[.int .i16 c0, .slice ua L0.length uq] 31) = w5 at *
      generalize w4.heap.size = yb at *
      go_region_held3 (fun w' => w'.cell? ⟨w.heap.size, 0, none⟩ = some (.int .i16 c0) ∧ w'.cell? ⟨w.heap.size, 1, none⟩ = some (.slice a0 L0.length q0) ∧ w'.cell? ⟨w.heap.size + 1, 0, none⟩ = some (.int .i16 y1) ∧ w'.cell? ⟨w.heap.size + 1, 1, none⟩ = some (.int .i16 z1) ∧ w'.cell? ⟨yb, 0, none⟩ = some (.int .i16 c0) ∧ w'.cell? ⟨yb, 1, none⟩ = some (.slice ua L0.length uq) ∧ Below w.heap.size w w' ∧ Below w5.heap.size w5 w' ∧ w.heap.size < w'.heap.size ∧ w.heap.size + 1 < w'.heap.size ∧ yb < w'.heap.size)
        (first | assumption | exact hb6_start X5.out Z5.out Y5.out | (refine hb6_next ?_ hB7; assumption) | (refine hb6_next ?_ hB8; assumption))
        (first | (go_at_call 9; refine (HLo.out _).mono ?_; rintro e w7 ⟨rfl, hB7⟩) | (go_at_call 13; refine (cI.out _ _ (HS.out.below (hb6_get (w := w) (V := w5) (b := w.heap.size) (d := w.heap.size + 1) (g := yb) (by assumption)).2.2.2.2) (U5.out.strs.below (hb6_get (w := w) (V := w5) (b := w.heap.size) (d := w.heap.size + 1) (g := yb) (by assumption)).2.2.2.1)).mono ?_; rintro e w6 ⟨g0, rfl, own, hB8⟩; have hown6 : Own w6 w5.heap.size g0 F := Own.mono own (hb6_size (w := w) (V := w5) (b := w.heap.size) (d := w.heap.size + 1) (g := yb) (by assumption))) | fail)
      all_goals
        have HE := hb6_get (w := w) (V := w5) (b := w.heap.size) (d := w.heap.size + 1) (g := yb) (W := w6) (by assumption)
        have X6 := Lib.hid HE.1
        have Z6 := Lib.hid HE.2.1
        have Y6 := Lib.hid HE.2.2.1
        have U6 := Lib.hid (U5.out.below HE.2.2.2.1)
        have R6 := Lib.hid (R5.out.below HE.2.2.2.1)
        have G6 := Lib.hid hown6
        have NG := Lib.hid (show ∀ k, g0.ownBlock = some k → w5.heap.size ≤ k ∧ k < w6.heap.size from G6.out.lt)
        clear HE p0 p1 l0 l1 y0 y1' X5 Z5 Y5 U5 R5 hB7 hB8 own hown6
        go_wp2_with fail
        refine (eqSelf_any g0 r0 F w6 G6.out.ints R6.out.ints HF.out).mono ?_
        rintro e wq ⟨rfl, hB⟩
        have X7 := Lib.hid (hb2_id (hb2_next X6.out hB))
        have L7 := Lib.hid (hb2_id (hb2_next Z6.out hB))
        have Y7 := Lib.hid (hb2_id (hb2_next Y6.out hB))
        have U7 := Lib.hid (U6.out.below hB)
        have R7 := Lib.hid (R6.out.below hB)
        have G7 := Lib.hid (G6.out.below hB)
        have UD := Lib.hid ((U7.out.strs).below (Below.refl wq.heap.size wq).drew)
        clear hB X6 Y6 Z6 U6 R6 G6
        obtain ⟨p0, p1, _, _⟩ := X7.out
        obtain ⟨y0, y1', _, _⟩ := Y7.out
        obtain ⟨l0, l1, _, _⟩ := L7.out
        go_wp2_with fail
        go_region_held3 (fun w' => w'.cell? ⟨w.heap.size, 0, none⟩ = some (.int .i16 c0) ∧ w'.cell? ⟨w.heap.size, 1, none⟩ = some (.slice a0 L0.length q0) ∧ w'.cell? ⟨w.heap.size + 1, 0, none⟩ = some (.int .i16 y1) ∧ w'.cell? ⟨w.heap.size + 1, 1, none⟩ = some (.int .i16 z1) ∧ w'.cell? ⟨yb, 0, none⟩ = some (.int .i16 c0) ∧ w'.cell? ⟨yb, 1, none⟩ = some (.slice ua L0.length uq) ∧ Below w.heap.size w w' ∧ Below wq.heap.size wq w' ∧ w.heap.size < w'.heap.size ∧ w.heap.size + 1 < w'.heap.size ∧ yb < w'.heap.size)
          (first | assumption | exact hb6_start X7.out L7.out Y7.out | (refine hb6_next ?_ hB7; assumption) | (refine hb6_next ?_ hB8; assumption))
          (first | (go_at_call 8; refine (HTo.out _ (hb6_get (w := w) (V := wq) (b := w.heap.size) (d := w.heap.size + 1) (g := yb) (by assumption)).2.2.2.2).mono ?_; rintro e wa ⟨u4, rfl, own4, hB7⟩) | (go_at_call 11; refine (HEq.out _ _ _ (UD.out.below hB7) own4.strs).mono ?_; rintro e wb ⟨rfl, hB8⟩) | fail)
        all_goals
          have HE := hb6_get (w := w) (V := wq) (b := w.heap.size) (d := w.heap.size + 1) (g := yb) (W := wb) (by assumption)
          have X9 := Lib.hid HE.1
          have L9 := Lib.hid HE.2.1
          have Y9 := Lib.hid HE.2.2.1
          have U9 := Lib.hid (U7.out.below HE.2.2.2.1)
          have R9 := Lib.hid (R7.out.below HE.2.2.2.1)
          have G9 := Lib.hid (G7.out.below HE.2.2.2.1)
          clear HE X7 Y7 L7 U7 R7 G7 UD p0 p1 y0 y1' l0 l1 hB7 hB8 own4
          obtain ⟨p0, p1, _, _⟩ := X9.out
          obtain ⟨y0, y1', _, _⟩ := Y9.out
          go_wp2_with fail
          refine (HMk.out _ _ _ U9.out).mono ?_
          rintro e wA ⟨rfl, own, hg⟩
          have XA := Lib.hid (hb2_grown X9.out hg (fun k hk => by have := (NU.out k hk).1; have := Z23.out; omega))
          have LA := Lib.hid (hb2_grown L9.out hg (fun k hk => by have := (NU.out k hk).1; have := Z23.out; omega))
          have RA := Lib.hid (R9.out.kept hg (own_apart fun a b ha hb => by have := (NR.out a ha).2; have := (NU.out b hb).1; omega))
          have GA := Lib.hid (G9.out.kept hg (own_apart fun a b ha hb => by have := (NG.out a ha).1; have := (NU.out b hb).2; have := Z23.out; omega))
          clear p0 p1 y0 y1' own hg X9 Y9 L9 U9 R9 G9
          go_wp2_with fail
          refine (eqSelf_any g0 r0 F wA GA.out.ints RA.out.ints HF.out).mono ?_
          rintro e wB ⟨rfl, hB⟩
          have XB := Lib.hid (hb2_id (hb2_next XA.out hB))
          have LB := Lib.hid (hb2_id (hb2_next LA.out hB))
          have RB := Lib.hid (RA.out.below hB)
          have GB := Lib.hid (GA.out.below hB)
          clear hB XA LA RA GA
          go_wp2_with fail
          refine (mark_any g0 F _ wB 1 GB.out HF.out (by omega) (by omega)).mono ?_
          rintro e wC ⟨rfl, own, hg⟩
          have XC := Lib.hid (hb2_grown XB.out hg (fun k hk => by have := (NG.out k hk).1; have := Z23.out; omega))
          have LC := Lib.hid (hb2_grown LB.out hg (fun k hk => by have := (NG.out k hk).1; have := Z23.out; omega))
          have RC := Lib.hid (RB.out.kept hg (own_apart fun a b ha hb => by have := (NR.out a ha).2; have := (NG.out b hb).1; have := Z23.out; omega))
          have GC := Lib.hid own
          clear own hg XB LB RB GB
          go_wp2_with fail
          refine (held_any g0 F.length wC 1 GC.out.ints HF.out (by omega) (by omega)).mono ?_
          rintro e wD ⟨rfl, hB⟩
          have XD := Lib.hid (hb2_id (hb2_next XC.out hB))
          have LD := Lib.hid (hb2_id (hb2_next LC.out hB))
          have RD := Lib.hid (RC.out.below hB)
          have GD := Lib.hid (GC.out.below hB)
          clear hB XC LC RC GC
          obtain ⟨p0, p1, _, _⟩ := XD.out
          obtain ⟨l0, l1, _, _⟩ := LD.out
          go_wp2_with fail
          go_region_held3 (fun w' => w'.cell? ⟨w.heap.size, 0, none⟩ = some (.int .i16 c0) ∧ w'.cell? ⟨w.heap.size, 1, none⟩ = some (.slice a0 L0.length q0) ∧ w'.cell? ⟨w.heap.size + 1, 0, none⟩ = some (.int .i16 y1) ∧ w'.cell? ⟨w.heap.size + 1, 1, none⟩ = some (.int .i16 z1) ∧ Below w.heap.size w w' ∧ Below wD.heap.size wD w' ∧ w.heap.size < w'.heap.size ∧ w.heap.size + 1 < w'.heap.size)
            (first | assumption | exact hb4v_start XD.out LD.out | (refine hb4v_next ?_ hB7; assumption) | (refine hb4v_next ?_ hB8; assumption) | (refine hb4v_next ?_ hB9; assumption))
            (first | (go_at_call 8; refine (HTo.out _ (hb4v_below (w := w) (V := wD) (b := w.heap.size) (d := w.heap.size + 1) (by assumption)).1).mono ?_; rintro e w7 ⟨u3, rfl, own3, hB7⟩) | (go_at_call 9; refine (HLo.out _).mono ?_; rintro e w8 ⟨rfl, hB8⟩) | (go_at_call 13; refine (cI.out _ _ (HS.out.below (hb4v_below (w := w) (V := wD) (b := w.heap.size) (d := w.heap.size + 1) (by assumption)).1) (by first | exact own3.strs | exact own3.strs.below hB8)).mono ?_; rintro e w90 ⟨h0, rfl, own, hB9⟩) | fail)
          all_goals
            have HE := hb4v_get (w := w) (V := wD) (b := w.heap.size) (d := w.heap.size + 1) (W := w90) (by assumption)
            have XF := Lib.hid HE.1
            have RF := Lib.hid (RD.out.below HE.2.2)
            have GF := Lib.hid (GD.out.below HE.2.2)
            have HFo := Lib.hid own.ints
            clear HE own3 hB7 hB8 hB9 own XD LD RD GD
            go_wp2_with fail
            refine (eqSelf_any h0 r0 F w90 HFo.out RF.out.ints HF.out).mono ?_
            rintro e wG ⟨rfl, hB⟩
            have XG := Lib.hid (hb2_id (hb2_next XF.out hB))
            have GG := Lib.hid (GF.out.below hB)
            clear hB XF RF GF HFo
            go_wp2_with fail
            refine (held_any g0 F.length wG 1 GG.out.ints HF.out (by omega) (by omega)).mono ?_
            rintro e wH ⟨rfl, hB⟩
            have XH := Lib.hid (hb2_id (hb2_next XG.out hB))
            clear hB XG GG
            go_wp2
            go_ret
            exact ⟨rfl, XH.out.2.2.1⟩
  · have HSZ := Lib.hid fun wx hx => szFabric_no c0 s0 L0 1048576 wx hx (by omega) (by omega) hm0 hz0 (by omega)
    have HA := Lib.hid hA0
    obtain ⟨a0, q0, rfl⟩ := hA0.len
    have X0 := Lib.hid (hb_two w (.int .i16 c0) (.slice a0 L0.length q0) (.int .i16 y1) (.int .i16 z1) 25 27).1
    clear hA0 hc0 hm0 hz0 hw
    go_enter Tryd.func4, Tryd.ntmps4
    go_wp2_with fail
    refine (HSZ.out _ (HA.out.below X0.out.2.2.1)).mono ?_
    rintro e w1 ⟨rfl, hB⟩
    have X1 := Lib.hid (hb2_id (hb2_next X0.out hB))
    clear hB X0
    go_wp2
    go_ret
    exact ⟨rfl, X1.out.2.2.1⟩
end Go.Proofs.YtcdjabhdbobghaaDoor
