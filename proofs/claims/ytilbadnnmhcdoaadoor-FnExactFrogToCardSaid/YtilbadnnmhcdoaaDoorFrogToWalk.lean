/-
  Proved here: the law on FrogTo answers true, for all arguments; condition: the six errors of chapter 3 lie where the program's text lays them.
-/
import Derived.Test.YtilbadnnmhcdoaaDoorFrS
import Derived.Test.YtilbadnnmhcdoaaDoorFrI
import Derived.Test.YtilbadnnmhcdoaaDoorFbR
namespace Go.Proofs.YtilbadnnmhcdoaaDoor
open Go.ChangeShapes Go.WideShapes Go.ChangeAt Go.RowKit

set_option linter.unusedVariables false in
set_option maxRecDepth 100000 in
set_option maxHeartbeats 16000000 in
theorem frogTo_walk {H : Type} {enc : TypeId × Value → H} (w : World) (base : Nat)
    (v0 : Value) (d0 : DataW H) (p0 : List MemPlace) (o0 : Value.okWide Tryd.prog w .any base 25 v0) (k0 : DataW.Trod enc Tryd.prog w 0 (fun _ => true) true 25 v0 d0 p0)
    (v1 : Value) (d1 : DataW H) (p1 : List MemPlace) (o1 : Value.okWide Tryd.prog w .any base 2 v1) (k1 : DataW.Trod enc Tryd.prog w 0 (fun _ => true) true 2 v1 d1 p1)
    (v2 : Value) (d2 : DataW H) (p2 : List MemPlace) (o2 : Value.okWide Tryd.prog w .any base 2 v2) (k2 : DataW.Trod enc Tryd.prog w 0 (fun _ => true) true 2 v2 d2 p2)
    (p : Nat → Addr) (hs : Sent w p) :
    Calls Tryd.prog 6 #[v0, v1, v2] w fun e w' => e = .returned (.bool true) ∧ Below w.heap.size w w' := by
  obtain ⟨c0, s0, L0, rfl, hc0, hA0, hm0, hz0⟩ := open_fabric o0 k0
  clear o0 k0
  obtain ⟨x1, rfl, hx1⟩ := open_one Tryd.underlying2 o1
  clear o1 k1
  obtain ⟨x2, rfl, hx2⟩ := open_one Tryd.underlying2 o2
  clear o2 k2
  have HS := Lib.hid hs
  clear hs
  by_cases hw : weight L0 ≤ 1048576
  · have hn0 : L0.length ≤ 1048576 := by unfold weight at hw; omega
    have hsz0 : ∀ j, j < L0.length → (rowAt L0 j).size ≤ 1048576 := fun j hj => by have := size_of L0 j hj; unfold weight at hw; unfold rowAt; omega
    have HSZ := Lib.hid fun wx hx => szFabric_yes c0 s0 L0 1048576 wx hx (by omega) (by omega) hm0 hz0 (by omega)
    have hF := frogF_len (c := c0) (r := x1) (g := x2) hn0
    have cS := Lib.hid fun u wx (g : StrsC wx u L0) => specFrog_any c0 u L0 x1 x2 wx hc0 g hn0 hsz0
    have cI := Lib.hid fun u wx (hs : Sent wx p) (g : StrsC wx u L0) => implFrog_any p c0 u L0 x1 x2 wx hs hc0 g hn0 hsz0
    obtain ⟨cc, hcce⟩ : ∃ F, (frogF c0 L0 x1 x2).1.1 = F := ⟨_, rfl⟩
    obtain ⟨F, hFe⟩ : ∃ F, (frogF c0 L0 x1 x2).1.2 = F := ⟨_, rfl⟩
    obtain ⟨C1, hC1e⟩ : ∃ F, (frogF c0 L0 x1 x2).2.1 = F := ⟨_, rfl⟩
    obtain ⟨C2, hC2e⟩ : ∃ F, (frogF c0 L0 x1 x2).2.2 = F := ⟨_, rfl⟩
    rw [hcce, hFe, hC1e, hC2e] at cS cI
    rw [hFe] at hF
    clear hcce hFe hC1e hC2e
    have hne1 : (C1 != C1) = false := by simp
    have hne2 : (C2 != C2) = false := by simp
    have hme : ((1 + (F.length : Int)) != (1 + (F.length : Int))) = false := by simp
    have hlt0 : ¬ ((1 : Int) + (L0.length : Int) < 0) := by omega
    have hlt1 : ¬ ((1 : Int) + (F.length : Int) < 0) := by omega
    have HF := Lib.hid hF
    obtain ⟨a0, q0, rfl⟩ := hA0.len
    have HA := Lib.hid hA0
    have HTo := Lib.hid fun wx (hB : Below w.heap.size w wx) => toFabric_any c0 _ L0 wx (HA.out.below hB) hn0
    have HEq := Lib.hid fun a b wx ha hb => eqFabric_self c0 a b L0 wx ha hb (by omega)
    have HER := Lib.hid fun a b wx ha hb => eqFabric_self cc a b F wx ha hb (by omega)
    have HMk := Lib.hid fun v base wx (h : OwnT wx base v L0) => markFabric_any c0 v L0 base wx 1 h (by omega) (by omega) (by omega)
    have HMR := Lib.hid fun v base wx (h : OwnT wx base v F) => markFabric_any cc v F base wx 1 h (by omega) (by omega) (by omega)
    have HHR := Lib.hid fun v wx (h : Strs wx v (mtl 1 F.length)) => heldFabric_any cc v F.length wx 1 h (by omega) (by omega) (by omega)
    have X0 := Lib.hid (hb2_made w (.int .i16 c0) (.slice a0 L0.length q0) 25)
    have hlt : ¬ ((1048576 : Int) - (weight L0 : Int) < 0) := by omega
    have hL1 : (L0.length : Int) ≤ 1048576 := by omega
    have hF1 : (F.length : Int) ≤ 2097152 := by omega
    clear hA0 hc0 hm0 hz0 hn0 hsz0 hw hF
    generalize weight L0 = wt at *
    go_enter Tryd.func6, Tryd.ntmps6
    go_wp2_with fail
    refine (HSZ.out _ (HA.out.below X0.out.2.2.1)).mono ?_
    rintro e w1 ⟨rfl, hB⟩
    have X1 := Lib.hid (hb2_id (hb2_next X0.out hB))
    clear hB X0 HSZ
    obtain ⟨p0, p1, _, _⟩ := X1.out
    go_wp2_with fail
    refine (HTo.out _ X1.out.2.2.1).mono ?_
    rintro e w2 ⟨u, rfl, own, hB⟩
    have X2 := Lib.hid (hb2_id (hb2_next X1.out hB))
    have S2 := Lib.hid (strsC_of own)
    clear p0 p1 hB own X1
    go_wp2_with fail
    refine (cS.out _ _ S2.out).mono ?_
    rintro e w3 ⟨r0, rfl, own, hB⟩
    obtain ⟨ra, rq, rfl⟩ : ∃ ra rq, r0 = .slice ra F.length rq := own.strs.len
    have A3 : Below w3.heap.size w3 (w3.alloc (.cells #[.int .i16 cc, .slice ra F.length rq] 27)) := (Below.refl _ _).alloc (Nat.le_refl _) _
    have X3' := Lib.hid (hb2_id (hb2_next X2.out hB))
    have X3 := Lib.hid (hb2_id (hb2_next X3'.out A3))
    have RB := Lib.hid (hb2_at (x := .int .i16 cc) (y := .slice ra F.length rq) X3'.out.2.2.1 27)
    have R3 := Lib.hid (own.below A3)
    have NR := Lib.hid (show ∀ k, (Value.slice ra F.length rq).ownBlock = some k → w2.heap.size ≤ k ∧ k < w3.heap.size from own.lt)
    have Z1 := Lib.hid (show w.heap.size < w2.heap.size from X2.out.2.2.2)
    have Z2 := Lib.hid hB.size
    have Z3 := Lib.hid (show w3.heap.size < (w3.alloc (.cells #[.int .i16 cc, .slice ra F.length rq] 27)).heap.size by simp)
    clear hB own S2 X2 X3' cS A3
    obtain ⟨p0, p1, _, _⟩ := X3.out
    go_wp2_with fail
    generalize w3.alloc (.cells #[.int .i16 cc, .slice ra F.length rq] 27) = w4 at *
    generalize w3.heap.size = rb at *
    refine (HTo.out _ X3.out.2.2.1).mono ?_
    rintro e w5 ⟨u, rfl, own, hB⟩
    obtain ⟨ua, uq, rfl⟩ := own.strs.len
    have A5 : Below w5.heap.size w5 (w5.alloc (.cells #[.int .i16 c0, .slice ua L0.length uq] 27)) := (Below.refl _ _).alloc (Nat.le_refl _) _
    have X5' := Lib.hid (hb2_id (hb2_next X3.out hB))
    have X5 := Lib.hid (hb2_id (hb2_next X5'.out A5))
    have RB5 := Lib.hid (hb2_id (hb2_next (hb2_id (hb2_next RB.out hB)) A5))
    have Y5 := Lib.hid (hb2_at (x := .int .i16 c0) (y := .slice ua L0.length uq) X5'.out.2.2.1 27)
    have U5 := Lib.hid (own.below A5)
    have R5 := Lib.hid ((R3.out.below hB).below A5)
    have NU := Lib.hid (show ∀ k, (Value.slice ua L0.length uq).ownBlock = some k → w4.heap.size ≤ k ∧ k < w5.heap.size from own.lt)
    have Z4 := Lib.hid hB.size
    have Z5 := Lib.hid (show w5.heap.size < (w5.alloc (.cells #[.int .i16 c0, .slice ua L0.length uq] 27)).heap.size by simp)
    clear p0 p1 hB own X3 X5' A5 R3 RB
    go_wp2_with fail
    generalize w5.alloc (.cells #[.int .i16 c0, .slice ua L0.length uq] 27) = w6 at *
    generalize w5.heap.size = yb at *
    refine (cI.out _ _ (HS.out.below X5.out.2.2.1) (strsC_of U5.out)).mono ?_
    rintro e w7 ⟨g0, rfl, own, hB⟩
    obtain ⟨ga, gq, rfl⟩ : ∃ ga gq, g0 = .slice ga F.length gq := own.strs.len
    have A7 : Below w7.heap.size w7 (w7.alloc (.cells #[.int .i16 cc, .slice ga F.length gq] 27)) := (Below.refl _ _).alloc (Nat.le_refl _) _
    have X7' := Lib.hid (hb2_id (hb2_next X5.out hB))
    have X7 := Lib.hid (hb2_id (hb2_next X7'.out A7))
    have RB7 := Lib.hid (hb2_id (hb2_next (hb2_id (hb2_next RB5.out hB)) A7))
    have Y7 := Lib.hid (hb2_id (hb2_next (hb2_id (hb2_next Y5.out hB)) A7))
    have GB7 := Lib.hid (hb2_at (x := .int .i16 cc) (y := .slice ga F.length gq) X7'.out.2.2.1 27)
    have U7 := Lib.hid ((U5.out.below hB).below A7)
    have R7 := Lib.hid ((R5.out.below hB).below A7)
    have G7 := Lib.hid (own.below A7)
    have NG := Lib.hid (show ∀ k, (Value.slice ga F.length gq).ownBlock = some k → w6.heap.size ≤ k ∧ k < w7.heap.size from own.lt)
    have Z6 := Lib.hid hB.size
    have Z7 := Lib.hid (show w7.heap.size < (w7.alloc (.cells #[.int .i16 cc, .slice ga F.length gq] 27)).heap.size by simp)
    clear hB own X5 X7' A7 R5 RB5 Y5 U5
    obtain ⟨g0, g1, _, _⟩ := GB7.out
    obtain ⟨r0, r1, _, _⟩ := RB7.out
    go_wp2_with fail
    generalize w7.alloc (.cells #[.int .i16 cc, .slice ga F.length gq] 27) = w8 at *
    generalize w7.heap.size = gb at *
    refine (HER.out _ _ _ G7.out.strs R7.out.strs).mono ?_
    rintro e w9 ⟨rfl, hB⟩
    have X9 := Lib.hid (hb2_id (hb2_next X7.out hB))
    have Y9 := Lib.hid (hb2_id (hb2_next Y7.out hB))
    have RB9 := Lib.hid (hb2_id (hb2_next RB7.out hB))
    have GB9 := Lib.hid (hb2_id (hb2_next GB7.out hB))
    have U9 := Lib.hid (U7.out.below hB)
    have R9 := Lib.hid (R7.out.below hB)
    have G9 := Lib.hid (G7.out.below hB)
    have UD := Lib.hid ((U9.out.strs).below (Below.refl w9.heap.size w9).drew)
    clear hB X7 Y7 RB7 GB7 U7 R7 G7 g0 g1 r0 r1
    obtain ⟨p0, p1, _, _⟩ := X9.out
    obtain ⟨y0, y1, _, _⟩ := Y9.out
    go_wp2_with fail
    go_region_held3 (fun w' => w'.cell? ⟨w.heap.size, 0, none⟩ = some (.int .i16 c0) ∧ w'.cell? ⟨w.heap.size, 1, none⟩ = some (.slice a0 L0.length q0) ∧ w'.cell? ⟨yb, 0, none⟩ = some (.int .i16 c0) ∧ w'.cell? ⟨yb, 1, none⟩ = some (.slice ua L0.length uq) ∧ Below w.heap.size w w' ∧ Below w9.heap.size w9 w' ∧ w.heap.size < w'.heap.size ∧ yb < w'.heap.size)
      (first | assumption | exact hb5_start X9.out Y9.out | (refine hb5_next ?_ hB7; assumption) | (refine hb5_next ?_ hB8; assumption))
      (first | (go_at_call 11; refine (HTo.out _ (hb5_below (w := w) (x := w9) (b := w.heap.size) (d := yb) (by assumption))).mono ?_; rintro e w8' ⟨u3, rfl, own3, hB7⟩) | (go_at_call 13; refine (HEq.out _ _ _ (UD.out.below hB7) own3.strs).mono ?_; rintro e w9' ⟨rfl, hB8⟩) | fail)
    have HE := hb5_get (w := w) (x := w9) (b := w.heap.size) (d := yb) (by assumption)
    have XA := Lib.hid HE.1
    have YA := Lib.hid HE.2.1
    have RBA := Lib.hid (hb2_id (hb2_next RB9.out HE.2.2))
    have GBA := Lib.hid (hb2_id (hb2_next GB9.out HE.2.2))
    have UA := Lib.hid (U9.out.below HE.2.2)
    have RA := Lib.hid (R9.out.below HE.2.2)
    have GA := Lib.hid (G9.out.below HE.2.2)
    clear HE X9 Y9 RB9 GB9 U9 R9 G9 UD p0 p1 y0 y1 hB7 hB8 own3
    obtain ⟨y0, y1, _, _⟩ := YA.out
    go_wp2_with fail
    refine (HMk.out _ _ _ UA.out).mono ?_
    rintro e wB ⟨rfl, own, hg⟩
    have XB := Lib.hid (hb2_far XA.out hg (fun k hk => by have := NU.out k hk; have := Z1.out; have := Z2.out; have := Z3.out; have := Z4.out; have := Z5.out; have := Z6.out; have := Z7.out; omega))
    have RBB := Lib.hid (hb2_far RBA.out hg (fun k hk => by have := NU.out k hk; have := Z1.out; have := Z2.out; have := Z3.out; have := Z4.out; have := Z5.out; have := Z6.out; have := Z7.out; omega))
    have GBB := Lib.hid (hb2_far GBA.out hg (fun k hk => by have := NU.out k hk; have := Z1.out; have := Z2.out; have := Z3.out; have := Z4.out; have := Z5.out; have := Z6.out; have := Z7.out; omega))
    have RB' := Lib.hid (RA.out.kept hg (own_apart fun a b ha hb => by have := NR.out a ha; have := NU.out b hb; have := Z1.out; have := Z2.out; have := Z3.out; have := Z4.out; have := Z5.out; have := Z6.out; have := Z7.out; omega))
    have GB' := Lib.hid (GA.out.kept hg (own_apart fun a b ha hb => by have := NG.out a ha; have := NU.out b hb; have := Z1.out; have := Z2.out; have := Z3.out; have := Z4.out; have := Z5.out; have := Z6.out; have := Z7.out; omega))
    clear y0 y1 own hg XA YA RBA GBA UA RA GA
    obtain ⟨g0, g1, _, _⟩ := GBB.out
    obtain ⟨r0, r1, _, _⟩ := RBB.out
    go_wp2_with fail
    refine (HER.out _ _ _ GB'.out.strs RB'.out.strs).mono ?_
    rintro e wC ⟨rfl, hB⟩
    have XC := Lib.hid (hb2_id (hb2_next XB.out hB))
    have RBC := Lib.hid (hb2_id (hb2_next RBB.out hB))
    have GBC := Lib.hid (hb2_id (hb2_next GBB.out hB))
    have RC := Lib.hid (RB'.out.below hB)
    have GC := Lib.hid (GB'.out.below hB)
    clear hB XB RBB GBB RB' GB' g0 g1 r0 r1
    obtain ⟨g0, g1, _, _⟩ := GBC.out
    go_wp2_with fail
    refine (HMR.out _ _ _ GC.out).mono ?_
    rintro e wD ⟨rfl, own, hg⟩
    have XD := Lib.hid (hb2_far XC.out hg (fun k hk => by have := NG.out k hk; have := Z1.out; have := Z2.out; have := Z3.out; have := Z4.out; have := Z5.out; have := Z6.out; have := Z7.out; omega))
    have RBD := Lib.hid (hb2_far RBC.out hg (fun k hk => by have := NG.out k hk; have := Z1.out; have := Z2.out; have := Z3.out; have := Z4.out; have := Z5.out; have := Z6.out; have := Z7.out; omega))
    have GBD := Lib.hid (hb2_far GBC.out hg (fun k hk => by have := NG.out k hk; have := Z1.out; have := Z2.out; have := Z3.out; have := Z4.out; have := Z5.out; have := Z6.out; have := Z7.out; omega))
    have RD := Lib.hid (RC.out.kept hg (own_apart fun a b ha hb => by have := NR.out a ha; have := NG.out b hb; have := Z1.out; have := Z2.out; have := Z3.out; have := Z4.out; have := Z5.out; have := Z6.out; have := Z7.out; omega))
    have GD := Lib.hid own
    clear own hg XC RBC GBC RC GC g0 g1
    obtain ⟨g0, g1, _, _⟩ := GBD.out
    go_wp2_with fail
    refine (HHR.out _ _ GD.out.strs).mono ?_
    rintro e wE ⟨rfl, hB⟩
    have XE := Lib.hid (hb2_id (hb2_next XD.out hB))
    have RBE := Lib.hid (hb2_id (hb2_next RBD.out hB))
    have GBE := Lib.hid (hb2_id (hb2_next GBD.out hB))
    have RE := Lib.hid (RD.out.below hB)
    have GE := Lib.hid (GD.out.below hB)
    clear hB XD RBD GBD RD GD g0 g1
    obtain ⟨p0, p1, _, _⟩ := XE.out
    go_wp2_with fail
    refine (HTo.out _ XE.out.2.2.1).mono ?_
    rintro e wF ⟨u4, rfl, own, hB⟩
    have XF := Lib.hid (hb2_id (hb2_next XE.out hB))
    have RBF := Lib.hid (hb2_id (hb2_next RBE.out hB))
    have GBF := Lib.hid (hb2_id (hb2_next GBE.out hB))
    have RF := Lib.hid (RE.out.below hB)
    have GF := Lib.hid (GE.out.below hB)
    have S4' := Lib.hid (strsC_of own)
    clear p0 p1 hB own XE RBE GBE RE GE
    go_wp2_with fail
    refine (cI.out _ _ (HS.out.below XF.out.2.2.1) S4'.out).mono ?_
    rintro e wG ⟨h0, rfl, own, hB⟩
    obtain ⟨ha, hq, rfl⟩ : ∃ ha hq, h0 = .slice ha F.length hq := own.strs.len
    have AG : Below wG.heap.size wG (wG.alloc (.cells #[.int .i16 cc, .slice ha F.length hq] 27)) := (Below.refl _ _).alloc (Nat.le_refl _) _
    have XG' := Lib.hid (hb2_id (hb2_next XF.out hB))
    have XG := Lib.hid (hb2_id (hb2_next XG'.out AG))
    have RBG := Lib.hid (hb2_id (hb2_next (hb2_id (hb2_next RBF.out hB)) AG))
    have GBG := Lib.hid (hb2_id (hb2_next (hb2_id (hb2_next GBF.out hB)) AG))
    have HBG := Lib.hid (hb2_at (x := .int .i16 cc) (y := .slice ha F.length hq) XG'.out.2.2.1 27)
    have RG := Lib.hid ((RF.out.below hB).below AG)
    have GG := Lib.hid ((GF.out.below hB).below AG)
    have HG := Lib.hid (own.below AG)
    clear hB own XF XG' AG RBF GBF RF GF S4'
    obtain ⟨h0, h1, _, _⟩ := HBG.out
    obtain ⟨r0, r1, _, _⟩ := RBG.out
    go_wp2_with fail
    generalize wG.alloc (.cells #[.int .i16 cc, .slice ha F.length hq] 27) = wH at *
    generalize wG.heap.size = hb at *
    refine (HER.out _ _ _ HG.out.strs RG.out.strs).mono ?_
    rintro e wI ⟨rfl, hB⟩
    have XI := Lib.hid (hb2_id (hb2_next XG.out hB))
    have GBI := Lib.hid (hb2_id (hb2_next GBG.out hB))
    have GI := Lib.hid (GG.out.below hB)
    clear hB XG RBG GBG RG GG HG HBG h0 h1 r0 r1
    obtain ⟨g0, g1, _, _⟩ := GBI.out
    go_wp2_with fail
    refine (HHR.out _ _ GI.out.strs).mono ?_
    rintro e wJ ⟨rfl, hB⟩
    have XJ := Lib.hid (hb2_id (hb2_next XI.out hB))
    clear hB XI GBI GI g0 g1
    go_wp2
    go_ret
    exact ⟨rfl, XJ.out.2.2.1⟩
  · have HSZ := Lib.hid fun wx hx => szFabric_no c0 s0 L0 1048576 wx hx (by omega) (by omega) hm0 hz0 (by omega)
    have HA := Lib.hid hA0
    obtain ⟨a0, q0, rfl⟩ := hA0.len
    have X0 := Lib.hid (hb2_made w (.int .i16 c0) (.slice a0 L0.length q0) 25)
    clear hA0 hc0 hm0 hz0 hw
    go_enter Tryd.func6, Tryd.ntmps6
    go_wp2_with fail
    refine (HSZ.out _ (HA.out.below X0.out.2.2.1)).mono ?_
    rintro e w1 ⟨rfl, hB⟩
    have X1 := Lib.hid (hb2_id (hb2_next X0.out hB))
    clear hB X0
    go_wp2
    go_ret
    exact ⟨rfl, X1.out.2.2.1⟩
end Go.Proofs.YtilbadnnmhcdoaaDoor
