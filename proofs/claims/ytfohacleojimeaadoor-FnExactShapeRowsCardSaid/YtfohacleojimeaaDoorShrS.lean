/-
  No statement is proved here: ShapeRows in the document's own text; no condition.
-/
import Derived.Test.YtfohacleojimeaaDoorShrM
import Derived.Deep.AppendLies
namespace Go.Proofs.YtfohacleojimeaaDoor
open Go.ChangeShapes Go.WideShapes Go.ChangeAt Go.RowKit

theorem one_str (a : ByteArray) : ∀ u ∈ [Value.string a], u.oneCell' = true := by intro u hu; simp at hu; subst hu; rfl

set_option maxRecDepth 100000 in
set_option maxHeartbeats 8000000 in
theorem specRows_any (f t r : Int) (w : World) :
    Calls Tryd.prog 7 #[.int .i64 f, .int .i64 t, .int .i64 r] w fun e w' => ∃ v, e = .returned (.tuple #[v, .int .i64 (rowsF f t r).2]) ∧ OwnT w' w.heap.size v (rowsF f t r).1 ∧ Below w.heap.size w w' := by
  obtain ⟨i0, hi, hz0, hz1, hz2⟩ := info_parts infoStr
  have H1 := Lib.hid fun wx => castS_any f wx
  have H2 := Lib.hid fun wx => castS_any t wx
  have H3 := Lib.hid fun wx => in_any r 1 30 wx
  cases h1 : inB f 1 60 with
  | false =>
    rw [rowsF_no (by rw [h1]; rfl)]
    rw [h1] at H1
    go_enter Tryd.func7, Tryd.ntmps7
    go_wp2_with fail
    refine (H1.out _).mono ?_
    rintro en w' ⟨rfl, rfl⟩
    go_wp2
    go_ret2
    exact ⟨_, rfl, World.ownsRow_made w #[] 0 (Nat.le_refl _) (by decide) rfl, (Below.refl _ _).alloc (Nat.le_refl _) _⟩
  | true =>
    cases h2 : inB t 1 60 with
    | false =>
      rw [rowsF_no (by rw [h2]; simp)]
      rw [h1] at H1
      rw [h2] at H2
      go_enter Tryd.func7, Tryd.ntmps7
      go_wp2_with fail
      refine (H1.out _).mono ?_
      rintro en w' ⟨rfl, rfl⟩
      go_wp2_with fail
      refine (H2.out _).mono ?_
      rintro en w' ⟨rfl, rfl⟩
      go_wp2
      go_ret2
      exact ⟨_, rfl, World.ownsRow_made w #[] 0 (Nat.le_refl _) (by decide) rfl, (Below.refl _ _).alloc (Nat.le_refl _) _⟩
    | true =>
      cases h3 : inB r 1 30 with
      | false =>
        rw [rowsF_no (by rw [h3]; simp)]
        rw [h1] at H1
        rw [h2] at H2
        rw [h3] at H3
        go_enter Tryd.func7, Tryd.ntmps7
        go_wp2_with fail
        refine (H1.out _).mono ?_
        rintro en w' ⟨rfl, rfl⟩
        go_wp2_with fail
        refine (H2.out _).mono ?_
        rintro en w' ⟨rfl, rfl⟩
        go_wp2_with fail
        refine (H3.out _).mono ?_
        rintro en w' ⟨rfl, rfl⟩
        go_wp2
        go_ret2
        exact ⟨_, rfl, World.ownsRow_made w #[] 0 (Nat.le_refl _) (by decide) rfl, (Below.refl _ _).alloc (Nat.le_refl _) _⟩
      | true =>
        rw [rowsF_yes (by rw [h1, h2, h3]; rfl)]
        rw [h1] at H1
        rw [h2] at H2
        rw [h3] at H3
        obtain ⟨f1, f2⟩ := inB_of h1
        obtain ⟨t1, t2⟩ := inB_of h2
        obtain ⟨r1, r2⟩ := inB_of h3
        clear h1 h2 h3
        obtain ⟨R, hR⟩ : ∃ R : Nat, r = (R : Int) := ⟨r.toNat, by omega⟩
        have hRn : r.toNat = R := by omega
        rw [hRn]
        obtain ⟨res, hres⟩ : ∃ res, res = (if rsOk f t r R = true then (rsL f t r R, (0 : Int)) else ([], 6)) := ⟨_, rfl⟩
        have HR1 := Lib.hid (show rsOk f t r R = true → res = (rsL f t r R, 0) from fun h => by rw [hres, if_pos h])
        have HR2 := Lib.hid (show rsOk f t r R = false → res = ([], 6) from fun h => by rw [hres, h]; rfl)
        rw [← hres]
        clear hres
        obtain ⟨r1', r2'⟩ := res
        have z1 : r ≠ 0 := by omega
        have z2 : (r == 0) = false := by rw [beq_eq_false_iff_ne]; omega
        have HC := Lib.hid fun (j : Nat) (hj : (j : Int) < r) wx => specShape_any (nowF f t r j) (nowF f t r (j + 1)) (nowF_bd f1 f2 t1 t2 (by omega)).1 (nowF_bd f1 f2 t1 t2 (by omega)).2 (nowF_bd f1 f2 t1 t2 (by omega)).1 (nowF_bd f1 f2 t1 t2 (by omega)).2 wx
        have HNx := Lib.hid fun j => nowF_succ f t r j
        have HPr := Lib.hid fun (j : Nat) (hj : (j : Int) < r) => prod_bd f1 f2 t1 t2 r2 hj
        have HBd := Lib.hid fun (j : Nat) (hj : (j : Int) < r) => (nxF_bd f1 f2 t1 t2 hj)
        have HSu := Lib.hid fun k => rsL_succ f t r k
        have HLe := Lib.hid fun k => rsL_len f t r k
        have HOkS := Lib.hid fun k => rsOk_succ f t r k
        have HNo := Lib.hid fun k (hk : k < R) => rsOk_no (f := f) (t := t) (r := r) (k := k) (N := R) hk
        have HOk0 := Lib.hid (show rsOk f t r 0 = true from rfl)
        have HB0 := Lib.hid (show OwnT (w.alloc (.cells #[] 9)) w.heap.size (.slice (some ⟨w.heap.size, 0, none⟩) 0 0) (rsL f t r 0) from World.ownsRow_made (size := 1) (e := 9) w #[] 0 (Nat.le_refl _) (by decide) rfl)
        have HBel := Lib.hid ((Below.refl w.heap.size w).alloc (Nat.le_refl _) (.cells #[] 9))
        have HN0 := Lib.hid (show nowF f t r 0 = f from rfl)
        have HRR := Lib.hid hR
        clear hR hRn
        have hRr : r ≤ (R : Int) := by have := HRR.out; omega
        have hRr2 : (R : Int) ≤ r := by have := HRR.out; omega
        go_enter Tryd.func7, Tryd.ntmps7
        go_wp2_with fail
        refine (H1.out _).mono ?_
        rintro en w' ⟨rfl, rfl⟩
        go_wp2_with fail
        refine (H2.out _).mono ?_
        rintro en w' ⟨rfl, rfl⟩
        go_wp2_with fail
        refine (H3.out _).mono ?_
        rintro en w' ⟨rfl, rfl⟩
        go_wp2_with fail
        go_loopw [8, 9, 10] (fun v nw i wr => ∃ (j : Nat) (u : Value), i = .int .i64 ((j : Int) + 1) ∧ nw = .int .i64 (nowF f t r j) ∧ u = v ∧ j ≤ R ∧ Hid (rsOk f t r j = true) ∧ Hid (OwnT wr w.heap.size v (rsL f t r j)) ∧ Hid (Below w.heap.size w wr)) (fun _ _ i _ => 40 - (intOf i).toNat)
        case atStart => exact ⟨0, _, rfl, by rw [HN0.out], rfl, Nat.zero_le _, HOk0, HB0, HBel⟩
        case round =>
          clear HB0 HBel HOk0
          obtain ⟨j, v, rfl, rfl, rfl, hj, hK, hO, hBe⟩ := hrel
          by_cases hlt : (j : Int) + 1 ≤ r
          · have hlt' : (j : Int) < r := by omega
            have hc := HC.out j hlt'
            obtain ⟨p1, p2⟩ := HPr.out j hlt'
            obtain ⟨⟨b1, b2⟩, b3, b4⟩ := HBd.out j hlt'
            have hrc := rowF_code (nowF f t r j) (nowF f t r (j + 1))
            have HSk := Lib.hid (HSu.out j)
            have HLk := Lib.hid (HLe.out j)
            have HLk1 := Lib.hid (HLe.out (j + 1))
            have HOkk := Lib.hid (HOkS.out j)
            have HNok := Lib.hid (HNo.out j (by omega))
            have HNx' := Lib.hid (HNx.out j)
            have hjR : j < R := by omega
            rw [HNx.out j] at hc hrc HSk HOkk HNok
            unfold nxF at b1 b2
            have u1 : ∀ [Inhabited Nat], IntKind.i64.wrap ((t - f) * ((j : Int) + 1)) = (t - f) * ((j : Int) + 1) := by intro _; exact (IntWalk.i64_in _ (by omega)).trans (by omega)
            have u2 : ∀ [Inhabited Nat], wrap64 ((t - f) * ((j : Int) + 1)) = (t - f) * ((j : Int) + 1) := by intro _; exact (IntWalk.wrap64_in _ (by omega)).trans (by omega)
            have u3 : ∀ [Inhabited Nat], IntKind.i64.wrap (((t - f) * ((j : Int) + 1)).tdiv r) = ((t - f) * ((j : Int) + 1)).tdiv r := by intro _; exact (IntWalk.i64_in _ (by omega)).trans (by omega)
            have u4 : ∀ [Inhabited Nat], wrap64 (((t - f) * ((j : Int) + 1)).tdiv r) = ((t - f) * ((j : Int) + 1)).tdiv r := by intro _; exact (IntWalk.wrap64_in _ (by omega)).trans (by omega)
            have u5 : ∀ [Inhabited Nat], IntKind.i64.wrap (f + ((t - f) * ((j : Int) + 1)).tdiv r) = f + ((t - f) * ((j : Int) + 1)).tdiv r := by intro _; exact (IntWalk.i64_in _ (by omega)).trans (by omega)
            have u6 : ∀ [Inhabited Nat], wrap64 (f + ((t - f) * ((j : Int) + 1)).tdiv r) = f + ((t - f) * ((j : Int) + 1)).tdiv r := by intro _; exact (IntWalk.wrap64_in _ (by omega)).trans (by omega)
            rcases hrc with hrc | hrc
            · have hd : decide ((rowF (nowF f t r j) (f + ((t - f) * ((j : Int) + 1)).tdiv r)).2 = 0) = true := by rw [hrc]; rfl
              rw [hd] at hc HOkk
              rw [hK.out] at HOkk
              have HCC := Lib.hid hc
              clear hd hrc HNok hc
              generalize (rowF (nowF f t r j) (f + ((t - f) * ((j : Int) + 1)).tdiv r)).1 = tx at *
              go_wp2_with fail
              refine (HCC.out _).mono ?_
              rintro en w2 ⟨rfl, hB2⟩
              have T2 := Lib.hid (hBe.out.trans (hB2.mono hBe.out.size))
              have O2 : Hid (w2.ownsRow w.heap.size 9 1 v j ((rsL f t r j).map Value.string)) := Lib.hid (by
                have := (hO.out.below hB2).row
                rwa [HLk.out] at this)
              have Z2 := Lib.hid T2.out.size
              clear hB2 hO hBe
              go_wp2_with (first
                | (at_builtin; refine wpList_append_lies _ rfl _ _ _ rfl w.heap.size 9 i0 (.string ByteArray.empty) 1 16 Tryd.underlying25 hi hz0 hz1 hz2 rfl (by omega) v j _ rfl (O2.out.alloc _) ⟨w2.heap.size, 0, none⟩ 1 1 [.string tx] rfl rfl (World.news_of_block (heap_alloc_new w2 _)) (one_str _) (by omega) (by unfold maxLen; omega) (by omega) (by have := Z2.out; simp; omega) (w2.heap.size + 1) (by simp) ?_; intro gg cap w3 hown3 hgrow hat hlt2)
                | fail)
              have hE3 := Lib.hid (T2.out.grown (grown_allocS hgrow) Z2.out (fun k hk => (O2.out.lt k hk).1))
              have HO3 : Hid (OwnT w3 w.heap.size (.slice (some ⟨gg, 0, none⟩) (j + 1) cap) (rsL f t r (j + 1))) := by
                unfold OwnT
                rw [HLk1.out, HSk.out, List.map_append]
                exact hown3
              clear hgrow hown3 hat hlt2 O2 T2 Z2
              go_wp2
              go_roundw
              case rel => exact ⟨j + 1, _, by go_num, by rw [HNx'.out], rfl, hjR, Lib.hid (by rw [HOkk.out]; rfl), HO3, hE3⟩
              case measure => simp [intOf]; omega
            · have hd : decide ((rowF (nowF f t r j) (f + ((t - f) * ((j : Int) + 1)).tdiv r)).2 = 0) = false := by rw [hrc]; rfl
              rw [hd] at hc
              have hno := HNok.out (by rw [hrc]; decide)
              have hre := HR2.out hno
              injection hre with hra hrb
              subst hra
              subst hrb
              clear HR1 HR2
              have HCC := Lib.hid hc
              clear hd hrc HNok hc hno HOkk
              generalize (rowF (nowF f t r j) (f + ((t - f) * ((j : Int) + 1)).tdiv r)).1 = tx at *
              go_wp2_with fail
              refine (HCC.out _).mono ?_
              rintro en w2 ⟨rfl, hB2⟩
              have T2 := Lib.hid (hBe.out.trans (hB2.mono hBe.out.size))
              clear hB2 hO hBe
              go_wp2
              go_ret2
              exact ⟨_, rfl, World.ownsRow_made w2 #[] 0 T2.out.size (by decide) rfl, T2.out.alloc T2.out.size _⟩
          · obtain rfl : j = R := by omega
            have hre := HR1.out hK.out
            injection hre with hra hrb
            subst hra
            subst hrb
            clear HR1 HR2
            go_wp2
            go_ret2
            exact ⟨_, rfl, hO.out, hBe.out⟩
end Go.Proofs.YtfohacleojimeaaDoor
