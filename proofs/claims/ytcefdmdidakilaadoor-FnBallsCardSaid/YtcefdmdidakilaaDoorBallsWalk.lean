/-
  Proved here: the law on balls answers true, for all arguments; condition: the six errors of chapter 3 lie where the program's text lays them.
-/
import Derived.Test.YtcefdmdidakilaaDoorBallsM
import Derived.Test.YtcefdmdidakilaaDoorBallL
import Derived.Test.YtcefdmdidakilaaDoorDraws
namespace Go.Proofs.YtcefdmdidakilaaDoor
open Go.ChangeShapes Go.WideShapes Go.ChangeAt Go.RowKit

theorem wraps_of {x y : Int} (h : x = y) (h0 : -9000000000000000000 ≤ y) (h1 : y ≤ 9000000000000000000) : (∀ [Inhabited Nat], IntKind.i64.wrap x = y) ∧ (∀ [Inhabited Nat], wrap64 x = y) := by
  subst h
  exact ⟨by intro _; exact (IntWalk.i64_in _ (by omega)).trans (by omega), by intro _; exact (IntWalk.wrap64_in _ (by omega)).trans (by omega)⟩

set_option linter.unusedVariables false in
set_option maxRecDepth 100000 in
set_option maxHeartbeats 40000000 in
theorem balls_walk {H : Type} {enc : TypeId × Value → H} (w : World) (base : Nat)
    (v0 : Value) (d0 : DataW H) (p0 : List MemPlace) (o0 : Value.okWide Tryd.prog w .any base 22 v0) (k0 : DataW.Trod enc Tryd.prog w 0 (fun _ => true) true 22 v0 d0 p0)
    (v1 : Value) (d1 : DataW H) (p1 : List MemPlace) (o1 : Value.okWide Tryd.prog w .any base 22 v1) (k1 : DataW.Trod enc Tryd.prog w 0 (fun _ => true) true 22 v1 d1 p1)
    (p : Nat → Addr) (hs : Sent w p) :
    Calls Tryd.prog 3 #[v0, v1] w fun e w' => e = .returned (.bool true) ∧ Below w.heap.size w w' := by
  obtain ⟨xs, hx⟩ := open_bytes o0 k0
  obtain ⟨ys, hy⟩ := open_bytes o1 k1
  clear o0 k0 o1 k1
  have hlong := long_any v0 v1 xs ys w hx hy
  have HP := Lib.hid hs
  clear hs
  by_cases hL : 3000 < xs.length ∨ 3000 < ys.length
  · have e : (decide (3000 < xs.length) || decide (3000 < ys.length)) = true := by simpa using hL
    rw [e] at hlong
    have HL := Lib.hid hlong
    clear hlong hx hy hL e
    go_enter Tryd.func3, Tryd.ntmps3
    go_wp2_with fail
    refine HL.out.mono ?_
    rintro e w' ⟨rfl, rfl⟩
    go_wp2_with fail
    go_ret
    exact ⟨rfl, Below.refl _ _⟩
  · have e : (decide (3000 < xs.length) || decide (3000 < ys.length)) = false := by
      have h1 : ¬ 3000 < xs.length := fun h => hL (.inl h)
      have h2 : ¬ 3000 < ys.length := fun h => hL (.inr h)
      simp [h1, h2]
    rw [e] at hlong
    have HL := Lib.hid hlong
    have hnx : xs.length ≤ 3000 := by omega
    have hny : ys.length ≤ 3000 := by omega
    have HX := Lib.hid hx
    have HY := Lib.hid hy
    clear hlong hL e hx hy
    have T0 := Lib.hid (Below.refl w.heap.size w)
    go_enter Tryd.func3, Tryd.ntmps3
    go_wp2_with fail
    refine HL.out.mono ?_
    rintro e w' ⟨rfl, rfl⟩
    go_wp2_with fail
    refine (a2At_any _ xs 0 256 _ (HX.out.below T0.out) hnx (by omega) (by omega) (by omega) (by omega)).mono ?_
    rintro e w1 ⟨r0, rfl, r00, r01, hB⟩
    have T1 := Lib.hid (T0.out.trans (hB.mono T0.out.size))
    clear hB
    go_wp2_with fail
    refine (a2At_any _ xs 1 20 _ (HX.out.below T1.out) hnx (by omega) (by omega) (by omega) (by omega)).mono ?_
    rintro e w2 ⟨r1, rfl, r10, r11, hB⟩
    have T2 := Lib.hid (T1.out.trans (hB.mono T1.out.size))
    clear hB
    go_wp2_with fail
    refine (a2At_any _ xs 2 40 _ (HX.out.below T2.out) hnx (by omega) (by omega) (by omega) (by omega)).mono ?_
    rintro e w3 ⟨r2, rfl, r20, r21, hB⟩
    have T3 := Lib.hid (T2.out.trans (hB.mono T2.out.size))
    clear hB
    go_wp2_with fail
    refine (a2At_any _ xs 3 8 _ (HX.out.below T3.out) hnx (by omega) (by omega) (by omega) (by omega)).mono ?_
    rintro e w4 ⟨r3, rfl, r30, r31, hB⟩
    have T4 := Lib.hid (T3.out.trans (hB.mono T3.out.size))
    clear hB
    go_wp2_with fail
    refine (a2At_any _ xs 4 9 _ (HX.out.below T4.out) hnx (by omega) (by omega) (by omega) (by omega)).mono ?_
    rintro e w5 ⟨r4, rfl, r40, r41, hB⟩
    have T5 := Lib.hid (T4.out.trans (hB.mono T4.out.size))
    clear hB
    go_wp2_with fail
    refine (a2At_any _ ys 0 200 _ (HY.out.below T5.out) hny (by omega) (by omega) (by omega) (by omega)).mono ?_
    rintro e w6 ⟨r5, rfl, r50, r51, hB⟩
    have T6 := Lib.hid (T5.out.trans (hB.mono T5.out.size))
    clear hB
    go_wp2_with fail
    obtain ⟨L, hL⟩ : ∃ L, L = 20 * r0 + r1 := ⟨_, rfl⟩
    obtain ⟨s, hss⟩ : ∃ s, s = 1 + r2 := ⟨_, rfl⟩
    obtain ⟨y, hyy⟩ : ∃ y, y = 1 + r4 := ⟨_, rfl⟩
    obtain ⟨R, hR⟩ : ∃ R, R = 1 + r5 := ⟨_, rfl⟩
    obtain ⟨g, hgg⟩ : ∃ g, g = r3 := ⟨_, rfl⟩
    rw [← hL, ← hss, ← hyy, ← hR, ← hgg]
    have hL0 : 0 ≤ L ∧ L ≤ 6000 := by omega
    have hR0 : 1 ≤ R ∧ R ≤ 200 := by omega
    have hin : (inB L 0 100000 && inB R 1 500) = true := by rw [inB_mk (by omega), inB_mk (by omega)]; rfl
    have hbb : ballB s g y = true := by unfold ballB; rw [inB_mk (by omega), inB_mk (by omega), inB_mk (by omega)]; rfl
    have hy0 : 1 ≤ y ∧ y ≤ 9 := by omega
    have u7 : (y == 0) = false := by rw [beq_eq_false_iff_ne]; omega
    clear hL hss hyy hR hgg r00 r01 r10 r11 r20 r21 r30 r31 r40 r41 r50 r51
    -- the turns
    have HT1 := Lib.hid fun wx hx => implTurns_any p L R wx hx
    have HT2 := Lib.hid fun wx => specTurns_any L R wx
    rw [turnsF_yes hin] at HT1 HT2
    obtain ⟨hb1, hb2, hb3⟩ := turns_back hin
    have hqb := (turns_bd hin).2.1
    generalize L.tdiv R = q at *
    generalize L.tmod R = t at *
    obtain ⟨P, hP⟩ : ∃ P, q * R = P := ⟨_, rfl⟩
    rw [hP] at hb1
    obtain ⟨v1', v2'⟩ := wraps_of hP (by omega) (by omega)
    obtain ⟨v3', v4'⟩ := wraps_of hb1 (by omega) (by omega)
    have e1 : (q != q) = false := by simp
    have e2 : (t != t) = false := by simp
    have e3 : (L != L) = false := by simp
    have e4 : ¬ t < 0 := by omega
    have e5 : ¬ R ≤ t := by omega
    clear hin hP
    refine (HT1.out _ (HP.out.below T6.out)).mono ?_
    rintro e w7 ⟨rfl, hB⟩
    have T7 := Lib.hid (T6.out.trans (hB.mono T6.out.size))
    clear hB
    go_wp2_with fail
    refine (HT2.out _).mono ?_
    rintro e w8 ⟨rfl, hB⟩
    have T8 := Lib.hid (T7.out.trans (hB.mono T7.out.size))
    clear hB
    go_wp2_with fail
    obtain ⟨k, x, hF, hx, hx0, hx1, hk⟩ := ball_is hbb hL0.1 (show L ≤ 100000 by omega)
    have HXX := Lib.hid hx
    clear hx
    have HB1 := Lib.hid fun wx hx => implBallTurns_any p L s g y wx hx
    have HB2 := Lib.hid fun wx => specBallTurns_any L s g y wx
    rw [hF] at HB1 HB2
    obtain ⟨kq, km, kt, hq2, hm2, ht2, hts, htb, hmb, u1, u2, u3, u4, u5, u6⟩ := turn_wraps hbb k hk
    rw [ht2] at hx1
    have hbk := bsum_ge hbb k (by omega)
    have hbs : bsum s g y (k + 1) = bsum s g y k + kt := by rw [bsum, ht2]
    have f1 : ((k : Int) != (k : Int)) = false := by simp
    have f2 : (x != x) = false := by simp
    have f3 : ¬ x < 0 := by omega
    have f4 : ¬ kt ≤ x := by omega
    have hkt : (k : Int).tdiv y = kq := by rw [Int.tdiv_eq_ediv_of_nonneg (by omega)]; exact hq2
    have hqb2 := (bturn_bd hbb k hk).1
    rw [hq2] at hqb2
    obtain ⟨u8, u9⟩ := wraps_of hkt (by omega) (by omega)
    clear hF hq2 hm2 hts hkt ht2
    refine (HB1.out _ (HP.out.below T8.out)).mono ?_
    rintro e w9 ⟨rfl, hB⟩
    have T9 := Lib.hid (T8.out.trans (hB.mono T8.out.size))
    clear hB
    go_wp2_with fail
    refine (HB2.out _).mono ?_
    rintro e w' ⟨rfl, rfl⟩
    by_cases hk1 : (k : Int) < 1000
    · have hl1 : lenF (k : Int) s g y = (bsum s g y k, 0) := lenF_yes (by rw [inB_mk (by omega), hbb]; rfl) rfl rfl
      have hl2 : lenF ((k : Int) + 1) s g y = (bsum s g y k + kt, 0) := lenF_yes (by rw [inB_mk (by omega), hbb]; rfl) (show (k : Int) + 1 = ((k + 1 : Nat) : Int) by push_cast; rfl) hbs.symm
      have HL1 := Lib.hid fun wx hx => implBallLength_any p (k : Int) s g y wx hx
      have HL2 := Lib.hid fun wx hx => implBallLength_any p ((k : Int) + 1) s g y wx hx
      rw [hl1] at HL1
      rw [hl2] at HL2
      have hbd := bsum_bd hbb k (by omega)
      have hx := HXX.out
      clear hl1 hl2 hbs
      generalize bsum s g y k = S at *
      have g1 : S + x = L := by omega
      have g2 : ¬ S + kt ≤ L := by omega
      have g3 : (L != L) = false := by simp
      obtain ⟨g4, g5⟩ := wraps_of g1 (by omega) (by omega)
      obtain ⟨S2, hS2⟩ : ∃ S2, S2 = S + kt := ⟨_, rfl⟩
      rw [← hS2] at HL2 g2
      clear hS2 hx HXX
      go_wp2_with fail
      refine (HL1.out _ (HP.out.below T9.out)).mono ?_
      rintro e w10 ⟨rfl, hB⟩
      have T10 := Lib.hid (T9.out.trans (hB.mono T9.out.size))
      clear hB
      go_wp2_with fail
      refine (HL2.out _ (HP.out.below T10.out)).mono ?_
      rintro e w11 ⟨rfl, hB⟩
      have T11 := Lib.hid (T10.out.trans (hB.mono T10.out.size))
      clear hB
      go_wp2_with fail
      refine (a2At_any _ ys 1 60 _ (HY.out.below T11.out) hny (by omega) (by omega) (by omega) (by omega)).mono ?_
      rintro e w12 ⟨M, rfl, M0, M1, hB⟩
      have T12 := Lib.hid (T11.out.trans (hB.mono T11.out.size))
      clear hB
      go_wp2_with fail
      refine (a2At_any _ ys 2 9 _ (HY.out.below T12.out) hny (by omega) (by omega) (by omega) (by omega)).mono ?_
      rintro e w13 ⟨r7, rfl, r70, r71, hB⟩
      have T13 := Lib.hid (T12.out.trans (hB.mono T12.out.size))
      clear hB
      go_wp2_with fail
      obtain ⟨E, hE⟩ : ∃ E, E = 1 + r7 := ⟨_, rfl⟩
      rw [← hE]
      have hE0 : 1 ≤ E ∧ E ≤ 9 := by omega
      clear hE r70 r71
      have hin2 : (inB M 0 1000 && inB E 1 1000) = true := by rw [inB_mk (by omega), inB_mk (by omega)]; rfl
      have HI1 := Lib.hid fun wx hx => implTies_any p M E wx hx
      have HI2 := Lib.hid fun wx => specTies_any M E wx
      rw [tiesF_yes hin2] at HI1 HI2
      obtain ⟨hln, hget⟩ := ties_all (t := M) (e := E) (by omega) (by omega) (by omega) (by omega)
      have hll := tiesL_len M E
      generalize tiesL M E = F at *
      have HG := Lib.hid hget
      have z1 : ¬ (E == 0) = true := by simp; omega
      have z2 : (E == 0) = false := by rw [beq_eq_false_iff_ne]; omega
      have ht2 : (M + E - 1).tdiv E = (F.length : Int) := by rw [Int.tdiv_eq_ediv_of_nonneg (by omega)]; exact hln.symm
      obtain ⟨x5, x6⟩ := wraps_of ht2 (by omega) (by omega)
      obtain ⟨x7, x8⟩ := wraps_of hln.symm (by omega) (by omega)
      have hFF : ((F.length : Int) != (F.length : Int)) = false := by simp
      have HFl := Lib.hid (show F.length ≤ 2097152 by omega)
      have HF60 := Lib.hid (show F.length ≤ 60 by omega)
      clear hin2 hget hll hln ht2
      refine (HI1.out _ (HP.out.below T13.out)).mono ?_
      rintro e w14 ⟨ra, rfl, own, hB⟩
      have T14 := Lib.hid (T13.out.trans (hB.mono T13.out.size))
      have A14 := Lib.hid own
      clear hB own
      go_wp2_with fail
      refine (HI2.out _).mono ?_
      rintro e w15 ⟨rb, rfl, own, hB⟩
      have T15 := Lib.hid (T14.out.trans (hB.mono T14.out.size))
      have A15 := Lib.hid (A14.out.ints.below hB)
      obtain ⟨ba, bc, rfl⟩ := own.ints.len
      have B15 := Lib.hid own.ints
      clear hB own A14
      go_wp2_with fail
      refine (a2Same_any ra _ F _ A15.out B15.out HFl.out).mono ?_
      rintro e w16 ⟨rfl, hB⟩
      have T16 := Lib.hid (T15.out.trans (hB.mono T15.out.size))
      have B16 := Lib.hid (B15.out.below hB)
      clear hB A15 B15
      obtain ⟨n, hn⟩ : ∃ n, n = F.length := ⟨_, rfl⟩
      have HN := Lib.hid hn
      rw [← hn] at x5 x6 x7 x8 hFF ⊢
      clear hn
      go_wp2_with fail
      go_loop [32] (fun i => ∃ k : Nat, k ≤ n ∧ i = .int .i64 k) (fun i => n - (intOf i).toNat)
      case atStart => exact ⟨0, Nat.zero_le _, rfl⟩
      case round =>
        obtain ⟨k, hk, rfl⟩ := hrel
        by_cases hlt : k < n
        · obtain ⟨bb, bo, rfl⟩ := (show Ints w16 (.slice ba F.length bc) F from B16.out).addr (by rw [← HN.out]; omega)
          have c1 : w16.cell? ⟨bb, bo + k, none⟩ = some (.int .i64 (F.getD k 0)) := (show Ints w16 (.slice (some ⟨bb, bo, none⟩) F.length bc) F from B16.out).at k (by rw [← HN.out]; exact hlt)
          have hz := HG.out k (by rw [← HN.out]; exact hlt)
          have hkn : (k : Int) < (n : Int) := by omega
          have hk60 : k ≤ 60 := by have := HF60.out; rw [← HN.out] at this; omega
          have hW0 : 0 ≤ E * ((k : Int) + 1) := Int.mul_nonneg (by omega) (by omega)
          have hW1 : E * ((k : Int) + 1) ≤ 9 * 61 := Int.mul_le_mul (by omega) (by omega) (by omega) (by omega)
          generalize F.getD k 0 = z at *
          obtain ⟨W, hW⟩ : ∃ W, E * ((k : Int) + 1) = W := ⟨_, rfl⟩
          rw [hW] at hz hW0 hW1
          obtain ⟨x1, x2⟩ := wraps_of hW (by omega) (by omega)
          clear hW
          have hzz : (z != min M W) = false := by simp [hz]
          go_wp2_with fail
          go_round
          case rel => exact ⟨k + 1, by omega, by go_num⟩
          case measure => simp [intOf]; omega
        · have hkn : k = n := by omega
          subst hkn
          go_wp2_with fail
          go_ret
          exact ⟨rfl, T16.out⟩
    · have hk2 : ¬ (k : Int) < 1000 := hk1
      clear hbs HXX
      go_wp2_with fail
      refine (a2At_any _ ys 1 60 _ (HY.out.below T9.out) hny (by omega) (by omega) (by omega) (by omega)).mono ?_
      rintro e w10 ⟨M, rfl, M0, M1, hB⟩
      have T10 := Lib.hid (T9.out.trans (hB.mono T9.out.size))
      clear hB
      go_wp2_with fail
      refine (a2At_any _ ys 2 9 _ (HY.out.below T10.out) hny (by omega) (by omega) (by omega) (by omega)).mono ?_
      rintro e w11 ⟨r7, rfl, r70, r71, hB⟩
      have T11 := Lib.hid (T10.out.trans (hB.mono T10.out.size))
      clear hB
      go_wp2_with fail
      obtain ⟨E, hE⟩ : ∃ E, E = 1 + r7 := ⟨_, rfl⟩
      rw [← hE]
      have hE0 : 1 ≤ E ∧ E ≤ 9 := by omega
      clear hE r70 r71
      have hin2 : (inB M 0 1000 && inB E 1 1000) = true := by rw [inB_mk (by omega), inB_mk (by omega)]; rfl
      have HI1 := Lib.hid fun wx hx => implTies_any p M E wx hx
      have HI2 := Lib.hid fun wx => specTies_any M E wx
      rw [tiesF_yes hin2] at HI1 HI2
      obtain ⟨hln, hget⟩ := ties_all (t := M) (e := E) (by omega) (by omega) (by omega) (by omega)
      have hll := tiesL_len M E
      generalize tiesL M E = F at *
      have HG := Lib.hid hget
      have z1 : ¬ (E == 0) = true := by simp; omega
      have z2 : (E == 0) = false := by rw [beq_eq_false_iff_ne]; omega
      have ht2 : (M + E - 1).tdiv E = (F.length : Int) := by rw [Int.tdiv_eq_ediv_of_nonneg (by omega)]; exact hln.symm
      obtain ⟨x5, x6⟩ := wraps_of ht2 (by omega) (by omega)
      obtain ⟨x7, x8⟩ := wraps_of hln.symm (by omega) (by omega)
      have hFF : ((F.length : Int) != (F.length : Int)) = false := by simp
      have HFl := Lib.hid (show F.length ≤ 2097152 by omega)
      have HF60 := Lib.hid (show F.length ≤ 60 by omega)
      clear hin2 hget hll hln ht2
      refine (HI1.out _ (HP.out.below T11.out)).mono ?_
      rintro e w12 ⟨ra, rfl, own, hB⟩
      have T12 := Lib.hid (T11.out.trans (hB.mono T11.out.size))
      have A12 := Lib.hid own
      clear hB own
      go_wp2_with fail
      refine (HI2.out _).mono ?_
      rintro e w13 ⟨rb, rfl, own, hB⟩
      have T13 := Lib.hid (T12.out.trans (hB.mono T12.out.size))
      have A13 := Lib.hid (A12.out.ints.below hB)
      obtain ⟨ba, bc, rfl⟩ := own.ints.len
      have B13 := Lib.hid own.ints
      clear hB own A12
      go_wp2_with fail
      refine (a2Same_any ra _ F _ A13.out B13.out HFl.out).mono ?_
      rintro e w14 ⟨rfl, hB⟩
      have T14 := Lib.hid (T13.out.trans (hB.mono T13.out.size))
      have B14 := Lib.hid (B13.out.below hB)
      clear hB A13 B13
      obtain ⟨n, hn⟩ : ∃ n, n = F.length := ⟨_, rfl⟩
      have HN := Lib.hid hn
      rw [← hn] at x5 x6 x7 x8 hFF ⊢
      clear hn
      go_wp2_with fail
      go_loop [32] (fun i => ∃ k : Nat, k ≤ n ∧ i = .int .i64 k) (fun i => n - (intOf i).toNat)
      case atStart => exact ⟨0, Nat.zero_le _, rfl⟩
      case round =>
        obtain ⟨k, hk, rfl⟩ := hrel
        by_cases hlt : k < n
        · obtain ⟨bb, bo, rfl⟩ := (show Ints w14 (.slice ba F.length bc) F from B14.out).addr (by rw [← HN.out]; omega)
          have c1 : w14.cell? ⟨bb, bo + k, none⟩ = some (.int .i64 (F.getD k 0)) := (show Ints w14 (.slice (some ⟨bb, bo, none⟩) F.length bc) F from B14.out).at k (by rw [← HN.out]; exact hlt)
          have hz := HG.out k (by rw [← HN.out]; exact hlt)
          have hkn : (k : Int) < (n : Int) := by omega
          have hk60 : k ≤ 60 := by have := HF60.out; rw [← HN.out] at this; omega
          have hW0 : 0 ≤ E * ((k : Int) + 1) := Int.mul_nonneg (by omega) (by omega)
          have hW1 : E * ((k : Int) + 1) ≤ 9 * 61 := Int.mul_le_mul (by omega) (by omega) (by omega) (by omega)
          generalize F.getD k 0 = z at *
          obtain ⟨W, hW⟩ : ∃ W, E * ((k : Int) + 1) = W := ⟨_, rfl⟩
          rw [hW] at hz hW0 hW1
          obtain ⟨x1, x2⟩ := wraps_of hW (by omega) (by omega)
          clear hW
          have hzz : (z != min M W) = false := by simp [hz]
          go_wp2_with fail
          go_round
          case rel => exact ⟨k + 1, by omega, by go_num⟩
          case measure => simp [intOf]; omega
        · have hkn : k = n := by omega
          subst hkn
          go_wp2_with fail
          go_ret
          exact ⟨rfl, T14.out⟩
end Go.Proofs.YtcefdmdidakilaaDoor
