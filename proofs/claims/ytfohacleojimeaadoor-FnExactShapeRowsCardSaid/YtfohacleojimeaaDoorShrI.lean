/-
  No statement is proved here: ShapeRows in the program; condition: its errors lie where its text lays them.
-/
import Derived.Test.YtfohacleojimeaaDoorShrM
namespace Go.Proofs.YtfohacleojimeaaDoor
open Go.ChangeShapes Go.WideShapes Go.ChangeAt Go.RowKit

def threeW {α : Type} (a b c : α) : Nat → α
  | 0 => a
  | 1 => b
  | _ => c
theorem check3w_any (p : Nat → Addr) (b cap : Nat) (n lo hi n1 lo1 hi1 n2 lo2 hi2 : Int) (w : World) (hs : Sent w p)
    (c0 : w.cell? ⟨b, 0, none⟩ = some (.iface 38 (.agg #[.int .i64 n, .int .i64 lo, .int .i64 hi])))
    (c1 : w.cell? ⟨b, 1, none⟩ = some (.iface 38 (.agg #[.int .i64 n1, .int .i64 lo1, .int .i64 hi1])))
    (c2 : w.cell? ⟨b, 2, none⟩ = some (.iface 38 (.agg #[.int .i64 n2, .int .i64 lo2, .int .i64 hi2]))) :
    Calls Tryd.prog 14 #[.slice (some ⟨b, 0, none⟩) 3 cap] w fun e w' => e = .returned (errIn p (inB n lo hi && inB n1 lo1 hi1 && inB n2 lo2 hi2)) ∧ Below w.heap.size w w' := by
  refine (checkW_any p b 3 cap (threeW n n1 n2) (threeW lo lo1 lo2) (threeW hi hi1 hi2) w hs (by omega) (by omega) (World.block_lt_of_cell? w _ c0) (fun j hj => ?_)).mono fun e w' ⟨he, hw⟩ => ⟨?_, hw⟩
  · match j, hj with
    | 0, _ => exact c0
    | 1, _ => exact c1
    | 2, _ => exact c2
  · rw [he]; simp [allTo, threeW]
theorem make_texts (n : Nat) (h : n ≤ 1048576) : ∃ R : Array Value, (∀ wx : World, (Instr.makeSlice 25 (.int .i64 (n : Int)) (.int .i64 (n : Int))).run Tryd.prog wx = .ok (.slice (some ⟨wx.heap.size, 0, none⟩) n n) (wx.alloc (.cells R 9))) ∧
    ∀ wx : World, OwnT (wx.alloc (.cells R 9)) wx.heap.size (.slice (some ⟨wx.heap.size, 0, none⟩) n n) (List.replicate n ByteArray.empty) := by
  obtain ⟨i0, hi, hz0, hz1, hz2⟩ := info_parts infoStr
  have hrun := fun wx : World => by
    have := run_makeSlice (P := Tryd.prog) wx 25 9 i0 (.string ByteArray.empty) Tryd.underlying25 hi hz0 .i64 .i64 (n : Int) (n : Int) (by omega) (Int.le_refl _) (by rw [hz1]; simp; omega) (by rw [hz2]; omega) (by omega)
    simpa only [Int.toNat_natCast] using this
  refine ⟨_, hrun, fun wx => ?_⟩
  obtain ⟨w', hr, ho, _⟩ := run_makeSlice_full (P := Tryd.prog) wx wx.heap.size 25 9 i0 (.string ByteArray.empty) 1 Tryd.underlying25 hi hz0 hz1 .i64 .i64 n (by omega) (by rw [hz2]; omega) (by unfold maxLen; omega) (Nat.le_refl _)
  rw [hrun wx] at hr
  simp only [Result.ok.injEq] at hr
  obtain ⟨_, rfl⟩ := hr
  unfold OwnT
  have e : (List.replicate n ByteArray.empty).map Value.string = (madeCells (Value.string ByteArray.empty).cells (n * 1)).toList := by
    rw [Nat.mul_one]
    show _ = (madeCells #[Value.string ByteArray.empty] n).toList
    rw [toList_madeCells_one]
    simp
  rw [List.length_replicate, e]
  exact ho

set_option maxRecDepth 100000 in
set_option maxHeartbeats 8000000 in
theorem implRows_any (p : Nat → Addr) (f t r : Int) (w : World) (hs : Sent w p) :
    Calls Tryd.prog 8 #[.int .i64 f, .int .i64 t, .int .i64 r] w fun e w' => ∃ v, e = .returned (.tuple #[v, .int .i64 (rowsF f t r).2]) ∧ OwnT w' w.heap.size v (rowsF f t r).1 ∧ Below w.heap.size w w' := by
  have HS := Lib.hid hs
  have q1 := neqNil_err
  have q2 := neqNil_nil
  clear hs
  have C := Lib.hid fun b cap wx h h0 h1 h2 => check3w_any p b cap f 1 60 t 1 60 r 1 30 wx h h0 h1 h2
  cases h : (inB f 1 60 && inB t 1 60 && inB r 1 30) with
  | false =>
    rw [rowsF_no h]
    rw [h, errIn_no] at C
    have HC := Lib.hid fun wx hx => codeOf_err (p := p) 1 (by omega) wx hx
    clear h
    go_enter Tryd.func8, Tryd.ntmps8
    go_wp2_with fail
    refine (C.out _ _ _ (HS.out.below ((Below.refl _ _).alloc (Nat.le_refl _) _)) (by simp [go_sem]) (by simp [go_sem]) (by simp [go_sem])).mono ?_
    rintro e w2 ⟨rfl, hB⟩
    have B2 := Lib.hid (((Below.refl w.heap.size w).alloc (Nat.le_refl _) _).trans (hB.mono (by simp)))
    clear hB
    go_wp2_with fail
    refine (HC.out _ (HS.out.below B2.out)).mono ?_
    rintro e w' ⟨rfl, rfl⟩
    go_wp2
    go_ret2
    exact ⟨_, rfl, World.ownsRow_nil _ _ _ _, B2.out⟩
  | true =>
    rw [rowsF_yes h]
    rw [h, errIn_yes] at C
    rw [Bool.and_eq_true, Bool.and_eq_true] at h
    obtain ⟨f1, f2⟩ := inB_of h.1.1
    obtain ⟨t1, t2⟩ := inB_of h.1.2
    obtain ⟨r1, r2⟩ := inB_of h.2
    clear h
    obtain ⟨R, hR⟩ : ∃ R : Nat, r = (R : Int) := ⟨r.toNat, by omega⟩
    subst hR
    rw [show ((R : Int)).toNat = R from rfl]
    obtain ⟨res, hres⟩ : ∃ res, res = (if rsOk f t (R : Int) R = true then (rsL f t (R : Int) R, (0 : Int)) else ([], 6)) := ⟨_, rfl⟩
    have HR1 := Lib.hid (show rsOk f t (R : Int) R = true → res = (rsL f t (R : Int) R, 0) from fun h => by rw [hres, if_pos h])
    have HR2 := Lib.hid (show rsOk f t (R : Int) R = false → res = ([], 6) from fun h => by rw [hres, h]; rfl)
    rw [← hres]
    clear hres
    obtain ⟨r1', r2'⟩ := res
    obtain ⟨RA, hmk, hmo⟩ := make_texts R (by omega)
    have z1 : (R : Int) ≠ 0 := by omega
    have z2 : ((R : Int) == 0) = false := by rw [beq_eq_false_iff_ne]; omega
    have HC := Lib.hid fun (j : Nat) (hj : (j : Int) < (R : Int)) wx => implShape_any (nowF f t (R : Int) j) (nowF f t (R : Int) (j + 1)) (nowF_bd f1 f2 t1 t2 (by omega)).1 (nowF_bd f1 f2 t1 t2 (by omega)).2 (nowF_bd f1 f2 t1 t2 (by omega)).1 (nowF_bd f1 f2 t1 t2 (by omega)).2 wx
    have HNx := Lib.hid fun j => nowF_succ f t (R : Int) j
    have HPr := Lib.hid fun (j : Nat) (hj : (j : Int) < (R : Int)) => prod_bd f1 f2 t1 t2 r2 hj
    have HBd := Lib.hid fun (j : Nat) (hj : (j : Int) < (R : Int)) => (nxF_bd f1 f2 t1 t2 hj)
    have HGe := Lib.hid fun k (hk : k < R) => rsL_get f t (R : Int) (N := R) (k := k) hk
    have HOkS := Lib.hid fun k => rsOk_succ f t (R : Int) k
    have HNo := Lib.hid fun k (hk : k < R) => rsOk_no (f := f) (t := t) (r := (R : Int)) (k := k) (N := R) hk
    have HOk0 := Lib.hid (show rsOk f t (R : Int) 0 = true from rfl)
    have HN0 := Lib.hid (show nowF f t (R : Int) 0 = f from rfl)
    have hzl : (rsL f t (R : Int) R).length = R := rsL_len f t (R : Int) R
    obtain ⟨zs, hz⟩ : ∃ zs, zs = rsL f t (R : Int) R := ⟨_, rfl⟩
    rw [← hz] at HR1 HGe hzl
    clear hz
    have HL := Lib.hid hzl
    have HFS := Lib.hid fun k (hk : k < R) => fillT_step zs k (by omega)
    have HFL := Lib.hid fun k (hk : k ≤ R) => fillT_length zs k (by omega)
    have HFA := Lib.hid (fillT_all zs)
    have HF0 := Lib.hid (show fillT zs 0 = List.replicate R ByteArray.empty by rw [fillT_zero, hzl])
    have HMO := Lib.hid hmo
    clear hzl hmo
    go_enter Tryd.func8, Tryd.ntmps8
    go_wp2_with fail
    refine (C.out _ _ _ (HS.out.below ((Below.refl _ _).alloc (Nat.le_refl _) _)) (by simp [go_sem]) (by simp [go_sem]) (by simp [go_sem])).mono ?_
    rintro e w2 ⟨rfl, hB⟩
    have B2 := Lib.hid (((Below.refl w.heap.size w).alloc (Nat.le_refl _) _).trans (hB.mono (by simp)))
    clear hB
    have O0 : Hid (OwnT (w2.alloc (.cells RA 9)) w2.heap.size (.slice (some ⟨w2.heap.size, 0, none⟩) R R) (fillT zs 0)) := Lib.hid (by rw [HF0.out]; exact HMO.out w2)
    have T0 := Lib.hid (B2.out.alloc B2.out.size (.cells RA 9))
    have Z2 := Lib.hid B2.out.size
    obtain ⟨B, hBe⟩ : ∃ B, B = w2.heap.size := ⟨_, rfl⟩
    rw [← hBe] at O0 Z2
    go_wp2_with fail
    rw [← hBe]
    clear hBe
    go_loopw [10, 34] (fun nw i wr => ∃ j : Nat, i = .int .i64 j ∧ nw = .int .i64 (nowF f t (R : Int) j) ∧ j ≤ R ∧ Hid (rsOk f t (R : Int) j = true) ∧ Hid (OwnT wr B (.slice (some ⟨B, 0, none⟩) R R) (fillT zs j)) ∧ Hid (Below w.heap.size w wr)) (fun _ i _ => 40 - (intOf i).toNat)
    case atStart => exact ⟨0, rfl, by rw [HN0.out], Nat.zero_le _, HOk0, O0, T0⟩
    case round =>
      clear O0 T0 HOk0 B2
      obtain ⟨j, rfl, rfl, hj, hK, hO, hBe⟩ := hrel
      by_cases hlt : (j : Int) < (R : Int)
      · have hc := HC.out j hlt
        obtain ⟨p1, p2⟩ := HPr.out j hlt
        obtain ⟨⟨b1, b2⟩, b3, b4⟩ := HBd.out j hlt
        have hrc := rowF_code (nowF f t (R : Int) j) (nowF f t (R : Int) (j + 1))
        have hjR : j < R := by omega
        have HOkk := Lib.hid (HOkS.out j)
        have HNok := Lib.hid (HNo.out j hjR)
        have HNx' := Lib.hid (HNx.out j)
        have HGk := Lib.hid (HGe.out j hjR)
        have HFk := Lib.hid (HFS.out j hjR)
        have HFl := Lib.hid (HFL.out j hj)
        have HFl1 := Lib.hid (HFL.out (j + 1) hjR)
        rw [HNx.out j] at hc hrc HOkk HNok HGk
        unfold nxF at b1 b2
        have u1 : ∀ [Inhabited Nat], IntKind.i64.wrap ((t - f) * ((j : Int) + 1)) = (t - f) * ((j : Int) + 1) := by intro _; exact (IntWalk.i64_in _ (by omega)).trans (by omega)
        have u2 : ∀ [Inhabited Nat], wrap64 ((t - f) * ((j : Int) + 1)) = (t - f) * ((j : Int) + 1) := by intro _; exact (IntWalk.wrap64_in _ (by omega)).trans (by omega)
        have u3 : ∀ [Inhabited Nat], IntKind.i64.wrap (((t - f) * ((j : Int) + 1)).tdiv (R : Int)) = ((t - f) * ((j : Int) + 1)).tdiv (R : Int) := by intro _; exact (IntWalk.i64_in _ (by omega)).trans (by omega)
        have u4 : ∀ [Inhabited Nat], wrap64 (((t - f) * ((j : Int) + 1)).tdiv (R : Int)) = ((t - f) * ((j : Int) + 1)).tdiv (R : Int) := by intro _; exact (IntWalk.wrap64_in _ (by omega)).trans (by omega)
        have u5 : ∀ [Inhabited Nat], IntKind.i64.wrap (f + ((t - f) * ((j : Int) + 1)).tdiv (R : Int)) = f + ((t - f) * ((j : Int) + 1)).tdiv (R : Int) := by intro _; exact (IntWalk.i64_in _ (by omega)).trans (by omega)
        have u6 : ∀ [Inhabited Nat], wrap64 (f + ((t - f) * ((j : Int) + 1)).tdiv (R : Int)) = f + ((t - f) * ((j : Int) + 1)).tdiv (R : Int) := by intro _; exact (IntWalk.wrap64_in _ (by omega)).trans (by omega)
        rcases hrc with hrc | hrc
        · have hd : decide ((rowF (nowF f t (R : Int) j) (f + ((t - f) * ((j : Int) + 1)).tdiv (R : Int))).2 = 0) = true := by rw [hrc]; rfl
          rw [hd, hK.out] at HOkk
          rw [hrc] at hc
          have HCC := Lib.hid hc
          clear hd hrc HNok hc
          generalize (rowF (nowF f t (R : Int) j) (f + ((t - f) * ((j : Int) + 1)).tdiv (R : Int))).1 = tx at *
          go_wp2_with fail
          refine (HCC.out _).mono ?_
          rintro en w3 ⟨rfl, hB3⟩
          have T3 := Lib.hid (hBe.out.trans (hB3.mono hBe.out.size))
          have O3 : Hid (w3.ownsRow B 9 1 (.slice (some ⟨B, 0, none⟩) R R) R ((fillT zs j).map Value.string)) := Lib.hid (by
            have := (hO.out.below hB3).row
            rwa [HFl.out, HL.out] at this)
          have c0 : w3.cell? ⟨B, j, none⟩ = some (.string ((fillT zs j).getD j ByteArray.empty)) := (O3.out.cellAt j (by omega)).trans (cellT (by rw [HFl.out, HL.out]; exact hjR))
          have f0 : w3.frozen? ⟨B, j, none⟩ = false := O3.out.frozenAt j
          clear hB3 hO hBe
          go_wp2
          go_roundw
          case rel =>
            refine ⟨j + 1, by go_num, by rw [HNx'.out], hjR, Lib.hid (by rw [HOkk.out]; rfl), ?_, Lib.hid (T3.out.setCell (p := ⟨B, j, none⟩) Z2.out _)⟩
            have h := (O3.out.stored j (Value.string tx)).1
            have e := HFk.out
            rw [HGk.out] at e
            rw [← List.map_set, e] at h
            refine Lib.hid ?_
            unfold OwnT
            rw [HFl1.out, HL.out]
            exact h
          case measure => simp [intOf]; omega
        · rw [hrc] at hc
          have hno := HNok.out (by rw [hrc]; decide)
          have hre := HR2.out hno
          injection hre with hra hrb
          subst hra
          subst hrb
          have HCC := Lib.hid hc
          clear hrc HNok hc hno HOkk HR1 HR2 HGk HNx'
          go_wp2_with fail
          refine (HCC.out _).mono ?_
          rintro en w3 ⟨rfl, hB3⟩
          have T3 := Lib.hid (hBe.out.trans (hB3.mono hBe.out.size))
          clear hB3 hO hBe
          go_wp2
          go_ret2
          exact ⟨_, rfl, World.ownsRow_nil _ _ _ _, T3.out⟩
      · obtain rfl : j = R := by omega
        have hre := HR1.out hK.out
        injection hre with hra hrb
        subst hra
        subst hrb
        have e := HFA.out
        rw [HL.out] at e
        have hO' := Lib.hid hO.out
        rw [e] at hO'
        clear HR1 HR2 hO
        go_wp2
        go_ret2
        exact ⟨_, rfl, OwnT.mono hO'.out Z2.out, hBe.out⟩
end Go.Proofs.YtfohacleojimeaaDoor
