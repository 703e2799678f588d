/-
  Proved here: the law on LeftOn answers true, for all arguments; condition: the six errors of chapter 3 lie where the program's text lays them.
-/
import Derived.Test.YtaanjjmochfhgaaDoorLeftI
import Derived.Test.YtaanjjmochfhgaaDoorLeftS
import Derived.Test.YtaanjjmochfhgaaDoorSnS
import Derived.Test.YtaanjjmochfhgaaDoorSnMark
import Derived.Test.YtaanjjmochfhgaaDoorIntsLaw
namespace Go.Proofs.YtaanjjmochfhgaaDoor
open Go.ChangeShapes Go.WideShapes Go.ChangeAt Go.RowKit

theorem apart_lt {v1 v2 : Value} {B : Nat} (h1 : ∀ k, v1.ownBlock = some k → k < B) (h2 : ∀ k, v2.ownBlock = some k → B ≤ k) : (v1.ownBlock = none ∨ v1.ownBlock ≠ v2.ownBlock) ∧ (v2.ownBlock = none ∨ v2.ownBlock ≠ v1.ownBlock) := by
  cases e1 : v1.ownBlock with
  | none => exact ⟨.inl rfl, by cases e2 : v2.ownBlock <;> simp⟩
  | some a =>
    have := h1 a e1
    cases e2 : v2.ownBlock with
    | none => exact ⟨.inr (by simp), .inl rfl⟩
    | some b =>
      have := h2 b e2
      exact ⟨.inr fun e => by have := Option.some.inj e; omega, .inr fun e => by have := Option.some.inj e; omega⟩

set_option linter.unusedVariables false in
set_option maxRecDepth 100000 in
set_option maxHeartbeats 8000000 in
theorem leftOn_walk {H : Type} {enc : TypeId × Value → H} (w : World) (base : Nat)
    (v0 : Value) (d0 : DataW H) (p0 : List MemPlace) (o0 : Value.okWide Tryd.prog w .any base 2 v0) (k0 : DataW.Trod enc Tryd.prog w 0 (fun _ => true) true 2 v0 d0 p0)
    (v1 : Value) (d1 : DataW H) (p1 : List MemPlace) (o1 : Value.okWide Tryd.prog w .any base 23 v1) (k1 : DataW.Trod enc Tryd.prog w 0 (fun _ => true) true 23 v1 d1 p1)
    (v2 : Value) (d2 : DataW H) (p2 : List MemPlace) (o2 : Value.okWide Tryd.prog w .any base 33 v2) (k2 : DataW.Trod enc Tryd.prog w 0 (fun _ => true) true 33 v2 d2 p2)
    (p : Nat → Addr) (hs : Sent w p) :
    Calls Tryd.prog 5 #[v0, v1, v2] w fun e w' => e = .returned (.bool true) ∧ Below w.heap.size w w' := by
  obtain ⟨x0, rfl, hx0⟩ := open_one Tryd.underlying2 o0
  clear o0 k0
  obtain ⟨zs1, hA1, hm1⟩ := open_argSt o1 k1
  clear o1 k1
  obtain ⟨a1, c1, rfl⟩ := hA1.len
  obtain ⟨zs2, hA2⟩ := open_arg o2 k2
  clear o2 k2
  obtain ⟨a2, c2, rfl⟩ := hA2.len
  have HS := Lib.hid hs
  clear hs
  have HA1 := Lib.hid hA1
  have HA2 := Lib.hid hA2
  have T0 := Lib.hid (Below.refl w.heap.size w)
  by_cases hn2 : zs2.length ≤ 1048576
  · skip
    by_cases hn1 : zs1.length ≤ 1048576
    · skip
      have Z1 := Lib.hid fun wx hx => szStrandS_any (.slice a1 zs1.length c1) zs1 1048576 wx hx (by omega) (by omega) (by omega)
      have hl1 : ¬ ((1048576 : Int) - (zs1.length : Int) < 0) := by omega
      have hl2' : ¬ ((1048576 : Int) < (zs2.length : Int)) := by omega
      have hF := leftF_len x0 zs1 zs2
      have cS := Lib.hid fun v1' v2' wx (g1 : Strands wx v1' zs1) (g2 : Ints wx v2' zs2) => specLeft_any x0 v1' v2' zs1 zs2 wx g1 hn1 g2 hn2
      have cI := Lib.hid fun v1' v2' wx (hs : Sent wx p) (g1 : Strands wx v1' zs1) (g2 : Ints wx v2' zs2) => implLeft_any p x0 v1' v2' zs1 zs2 wx hs g1 hn1 g2 hn2
      obtain ⟨F, hFe⟩ : ∃ F, (leftF x0 zs1 zs2).1 = F := ⟨_, rfl⟩
      obtain ⟨C1, hC1e⟩ : ∃ F, (leftF x0 zs1 zs2).2 = F := ⟨_, rfl⟩
      rw [hFe, hC1e] at cS cI
      rw [hFe] at hF
      clear hFe hC1e hA1 hA2
      have hne1 : (C1 != C1) = false := by simp
      have hme : ((1 + (F.length : Int)) != (1 + (F.length : Int))) = false := by simp
      have HF := Lib.hid hF
      have hlt0 : ¬ ((1 : Int) + 2 * (zs1.length : Int) + (zs2.length : Int) < 0) := by omega
      have hlt1 : ¬ ((1 : Int) + (F.length : Int) < 0) := by omega
      go_enter Tryd.func5, Tryd.ntmps5
      go_wp2_with fail
      refine (Z1.out _ (HA1.out.below T0.out)).mono ?_
      rintro e w ⟨rfl, rfl⟩
      go_wp2_with fail
      refine (toStrandS_any _ zs1 _ (HA1.out.below T0.out) hn1).mono ?_
      rintro e w1 ⟨s1, rfl, own, hB⟩
      have T1 := Lib.hid (T0.out.trans (hB.mono T0.out.size))
      have Z1' := Lib.hid hB.size
      have S1_1 := Lib.hid own
      clear hB own
      go_wp2_with fail
      refine (toInts_any _ zs2 _ (HA2.out.below T1.out) hn2).mono ?_
      rintro e w2 ⟨s2, rfl, own, hB⟩
      have T2 := Lib.hid (T1.out.trans (hB.mono T1.out.size))
      have Z2' := Lib.hid hB.size
      have S1_2 := Lib.hid (S1_1.out.below hB)
      have S2_2 := Lib.hid own
      clear hB S1_1 own
      go_wp2_with fail
      refine (cS.out s1 s2 w2 S1_2.out.strands S2_2.out.ints).mono ?_
      rintro e w3 ⟨r0, rfl, own, hB⟩
      have T3 := Lib.hid (T2.out.trans (hB.mono T2.out.size))
      have Z3' := Lib.hid hB.size
      have R3 := Lib.hid own
      have NR := Lib.hid (show ∀ k, (r0).ownBlock = some k → w2.heap.size ≤ k ∧ k < w3.heap.size from own.lt)
      clear hB S1_2 S2_2 own
      go_wp2_with fail
      refine (toStrandS_any _ zs1 _ (HA1.out.below T3.out) hn1).mono ?_
      rintro e w4 ⟨x1', rfl, own, hB⟩
      have T4 := Lib.hid (T3.out.trans (hB.mono T3.out.size))
      have Z4' := Lib.hid hB.size
      have R4 := Lib.hid (R3.out.below hB)
      have X1_4 := Lib.hid own
      have NX1_ := Lib.hid (show ∀ k, (x1').ownBlock = some k → w3.heap.size ≤ k ∧ k < w4.heap.size from World.ownsRow.lt own.row)
      clear hB R3 own
      go_wp2_with fail
      refine (toInts_any _ zs2 _ (HA2.out.below T4.out) hn2).mono ?_
      rintro e w5 ⟨x2', rfl, own, hB⟩
      have T5 := Lib.hid (T4.out.trans (hB.mono T4.out.size))
      have Z5' := Lib.hid hB.size
      have R5 := Lib.hid (R4.out.below hB)
      have X1_5 := Lib.hid (X1_4.out.below hB)
      have X2_5 := Lib.hid own
      have NX2_ := Lib.hid (show ∀ k, (x2').ownBlock = some k → w4.heap.size ≤ k ∧ k < w5.heap.size from own.lt)
      clear hB R4 X1_4 own
      go_wp2_with fail
      refine (cI.out x1' x2' w5 (HS.out.below T5.out) X1_5.out.strands X2_5.out.ints).mono ?_
      rintro e w6 ⟨g0, rfl, own, hB⟩
      have T6 := Lib.hid (T5.out.trans (hB.mono T5.out.size))
      have Z6' := Lib.hid hB.size
      have R6 := Lib.hid (R5.out.below hB)
      have X1_6 := Lib.hid (X1_5.out.below hB)
      have X2_6 := Lib.hid (X2_5.out.below hB)
      have G6 := Lib.hid own
      have NG := Lib.hid (show ∀ k, (g0).ownBlock = some k → w5.heap.size ≤ k ∧ k < w6.heap.size from own.lt)
      clear hB R5 X1_5 X2_5 own
      have PRX1_ := Lib.hid (apart_lt (v1 := r0) (v2 := x1') (B := w3.heap.size) (fun k hk => by have := (NR.out k hk).2; exact this) (fun k hk => by have h1 := (NX1_.out k hk).1; have h2 : w3.heap.size ≤ w3.heap.size := (by omega); omega))
      have PRX2_ := Lib.hid (apart_lt (v1 := r0) (v2 := x2') (B := w3.heap.size) (fun k hk => by have := (NR.out k hk).2; exact this) (fun k hk => by have h1 := (NX2_.out k hk).1; have h2 : w3.heap.size ≤ w4.heap.size := (by have := Z4'.out; omega); omega))
      have PRG := Lib.hid (apart_lt (v1 := r0) (v2 := g0) (B := w3.heap.size) (fun k hk => by have := (NR.out k hk).2; exact this) (fun k hk => by have h1 := (NG.out k hk).1; have h2 : w3.heap.size ≤ w5.heap.size := (by have := Z4'.out; have := Z5'.out; omega); omega))
      have PX1_X2_ := Lib.hid (apart_lt (v1 := x1') (v2 := x2') (B := w4.heap.size) (fun k hk => by have := (NX1_.out k hk).2; exact this) (fun k hk => by have h1 := (NX2_.out k hk).1; have h2 : w4.heap.size ≤ w4.heap.size := (by omega); omega))
      have PX1_G := Lib.hid (apart_lt (v1 := x1') (v2 := g0) (B := w4.heap.size) (fun k hk => by have := (NX1_.out k hk).2; exact this) (fun k hk => by have h1 := (NG.out k hk).1; have h2 : w4.heap.size ≤ w5.heap.size := (by have := Z5'.out; omega); omega))
      have PX2_G := Lib.hid (apart_lt (v1 := x2') (v2 := g0) (B := w5.heap.size) (fun k hk => by have := (NX2_.out k hk).2; exact this) (fun k hk => by have h1 := (NG.out k hk).1; have h2 : w5.heap.size ≤ w5.heap.size := (by omega); omega))
      go_wp2_with fail
      refine (eqSelf_any g0 r0 F w6 G6.out.ints R6.out.ints HF.out).mono ?_
      rintro e w7 ⟨rfl, hB⟩
      have T7 := Lib.hid (T6.out.trans (hB.mono T6.out.size))
      have Z7' := Lib.hid hB.size
      have R7 := Lib.hid (R6.out.below hB)
      have X1_7 := Lib.hid (X1_6.out.below hB)
      have X2_7 := Lib.hid (X2_6.out.below hB)
      have G7 := Lib.hid (G6.out.below hB)
      clear hB R6 X1_6 X2_6 G6
      go_wp2_with fail
      refine (toStrandS_any _ zs1 _ (HA1.out.below T7.out) hn1).mono ?_
      rintro e w8 ⟨y1, rfl, own, hB⟩
      have T8 := Lib.hid (T7.out.trans (hB.mono T7.out.size))
      have Z8' := Lib.hid hB.size
      have R8 := Lib.hid (R7.out.below hB)
      have X1_8 := Lib.hid (X1_7.out.below hB)
      have X2_8 := Lib.hid (X2_7.out.below hB)
      have G8 := Lib.hid (G7.out.below hB)
      have Y8 := Lib.hid own
      clear hB R7 X1_7 X2_7 G7 own
      go_wp2_with fail
      refine (eqStrandS_self x1' y1 zs1 w8 X1_8.out.strands Y8.out.strands (by omega)).mono ?_
      rintro e w9 ⟨rfl, hB⟩
      have T9 := Lib.hid (T8.out.trans (hB.mono T8.out.size))
      have Z9' := Lib.hid hB.size
      have R9 := Lib.hid (R8.out.below hB)
      have X1_9 := Lib.hid (X1_8.out.below hB)
      have X2_9 := Lib.hid (X2_8.out.below hB)
      have G9 := Lib.hid (G8.out.below hB)
      clear hB R8 X1_8 X2_8 G8 Y8
      go_wp2_with fail
      refine (toInts_any _ zs2 _ (HA2.out.below T9.out) hn2).mono ?_
      rintro e w10 ⟨y2, rfl, own, hB⟩
      have T10 := Lib.hid (T9.out.trans (hB.mono T9.out.size))
      have Z10' := Lib.hid hB.size
      have R10 := Lib.hid (R9.out.below hB)
      have X1_10 := Lib.hid (X1_9.out.below hB)
      have X2_10 := Lib.hid (X2_9.out.below hB)
      have G10 := Lib.hid (G9.out.below hB)
      have Y10 := Lib.hid own
      clear hB R9 X1_9 X2_9 G9 own
      go_wp2_with fail
      refine (eqSelf_any x2' y2 zs2 w10 X2_10.out.ints Y10.out.ints (by omega)).mono ?_
      rintro e w11 ⟨rfl, hB⟩
      have T11 := Lib.hid (T10.out.trans (hB.mono T10.out.size))
      have Z11' := Lib.hid hB.size
      have R11 := Lib.hid (R10.out.below hB)
      have X1_11 := Lib.hid (X1_10.out.below hB)
      have X2_11 := Lib.hid (X2_10.out.below hB)
      have G11 := Lib.hid (G10.out.below hB)
      clear hB R10 X1_10 X2_10 G10 Y10
      go_wp2_with fail
      refine (markSt_any x1' zs1 _ w11 (1) X1_11.out hn1 (by omega) (by omega)).mono ?_
      rintro e w12 ⟨rfl, hg⟩
      have T12 := Lib.hid (T11.out.grown hg T11.out.size fun k hk => by have := (NX1_.out k hk).1; have := T3.out.size; omega)
      have R12 := Lib.hid (R11.out.kept hg PRX1_.out.1)
      have X2_12 := Lib.hid (X2_11.out.kept hg PX1_X2_.out.2)
      have G12 := Lib.hid (G11.out.kept hg PX1_G.out.2)
      clear hg R11 X1_11 X2_11 G11
      go_wp2_with fail
      refine (mark_any x2' zs2 _ w12 (1 + 2 * (zs1.length : Int)) X2_12.out (by omega) (by omega) (by omega)).mono ?_
      rintro e w13 ⟨rfl, own, hg⟩
      have T13 := Lib.hid (T12.out.grown hg T12.out.size fun k hk => by have := (NX2_.out k hk).1; have := T4.out.size; omega)
      have R13 := Lib.hid (R12.out.kept hg PRX2_.out.1)
      have G13 := Lib.hid (G12.out.kept hg PX2_G.out.2)
      have X2_13 := Lib.hid own
      clear hg own R12 X2_12 G12
      go_wp2_with fail
      refine (eqSelf_any g0 r0 F w13 G13.out.ints R13.out.ints HF.out).mono ?_
      rintro e w14 ⟨rfl, hB⟩
      have T14 := Lib.hid (T13.out.trans (hB.mono T13.out.size))
      have Z14' := Lib.hid hB.size
      have R14 := Lib.hid (R13.out.below hB)
      have G14 := Lib.hid (G13.out.below hB)
      clear hB R13 G13
      go_wp2_with fail
      refine (mark_any g0 F _ w14 1 G14.out HF.out (by omega) (by omega)).mono ?_
      rintro e w15 ⟨rfl, own, hg⟩
      have T15 := Lib.hid (T14.out.grown hg T14.out.size fun k hk => by have := (NG.out k hk).1; have := T5.out.size; omega)
      have R15 := Lib.hid (R14.out.kept hg PRG.out.1)
      have G15 := Lib.hid own
      clear hg own R14 G14
      go_wp2_with fail
      refine (held_any g0 F.length w15 1 G15.out.ints HF.out (by omega) (by omega)).mono ?_
      rintro e w16 ⟨rfl, hB⟩
      have T16 := Lib.hid (T15.out.trans (hB.mono T15.out.size))
      have Z16' := Lib.hid hB.size
      have R16 := Lib.hid (R15.out.below hB)
      have G16 := Lib.hid (G15.out.below hB)
      clear hB R15 G15
      go_wp2_with fail
      refine (toStrandS_any _ zs1 _ (HA1.out.below T16.out) hn1).mono ?_
      rintro e w17 ⟨t1, rfl, own, hB⟩
      have T17 := Lib.hid (T16.out.trans (hB.mono T16.out.size))
      have Z17' := Lib.hid hB.size
      have R17 := Lib.hid (R16.out.below hB)
      have G17 := Lib.hid (G16.out.below hB)
      have T1_17 := Lib.hid own
      clear hB R16 G16 own
      go_wp2_with fail
      refine (toInts_any _ zs2 _ (HA2.out.below T17.out) hn2).mono ?_
      rintro e w18 ⟨t2, rfl, own, hB⟩
      have T18 := Lib.hid (T17.out.trans (hB.mono T17.out.size))
      have Z18' := Lib.hid hB.size
      have R18 := Lib.hid (R17.out.below hB)
      have G18 := Lib.hid (G17.out.below hB)
      have T1_18 := Lib.hid (T1_17.out.below hB)
      have T2_18 := Lib.hid own
      clear hB R17 G17 T1_17 own
      go_wp2_with fail
      refine (cI.out t1 t2 w18 (HS.out.below T18.out) T1_18.out.strands T2_18.out.ints).mono ?_
      rintro e w19 ⟨h0, rfl, own, hB⟩
      have T19 := Lib.hid (T18.out.trans (hB.mono T18.out.size))
      have Z19' := Lib.hid hB.size
      have R19 := Lib.hid (R18.out.below hB)
      have G19 := Lib.hid (G18.out.below hB)
      have H19 := Lib.hid own
      clear hB R18 G18 T1_18 T2_18 own
      go_wp2_with fail
      refine (eqSelf_any h0 r0 F w19 H19.out.ints R19.out.ints HF.out).mono ?_
      rintro e w20 ⟨rfl, hB⟩
      have T20 := Lib.hid (T19.out.trans (hB.mono T19.out.size))
      have Z20' := Lib.hid hB.size
      have R20 := Lib.hid (R19.out.below hB)
      have G20 := Lib.hid (G19.out.below hB)
      clear hB R19 G19 H19
      go_wp2_with fail
      refine (held_any g0 F.length w20 1 G20.out.ints HF.out (by omega) (by omega)).mono ?_
      rintro e w21 ⟨rfl, hB⟩
      have T21 := Lib.hid (T20.out.trans (hB.mono T20.out.size))
      have Z21' := Lib.hid hB.size
      have R21 := Lib.hid (R20.out.below hB)
      have G21 := Lib.hid (G20.out.below hB)
      clear hB R20 G20
      go_wp2_with fail
      go_ret
      exact ⟨rfl, T21.out⟩
    · have Z1 := Lib.hid fun wx hx => szStrandS_no (.slice a1 zs1.length c1) zs1 1048576 wx hx (by omega) (by omega) (by omega) hm1
      have hl2' : ¬ ((1048576 : Int) < (zs2.length : Int)) := by omega
      clear hA1 hA2
      go_enter Tryd.func5, Tryd.ntmps5
      go_wp2_with fail
      refine (Z1.out _ (HA1.out.below T0.out)).mono ?_
      rintro e w ⟨rfl, rfl⟩
      go_wp2_with fail
      go_ret
      exact ⟨rfl, T0.out⟩
  · have hgt : (1048576 : Int) < (zs2.length : Int) := by omega
    clear hA1 hA2
    go_enter Tryd.func5, Tryd.ntmps5
    go_wp2_with fail
    go_ret
    exact ⟨rfl, T0.out⟩
end Go.Proofs.YtaanjjmochfhgaaDoor
