/-
  Proved here: the law on SameYarns answers true, for all arguments; no condition.
-/
import Derived.Test.YtpkjogenkdckpaaYnS
namespace Go.Proofs.Ytpkjogenkdckpaa
open Go.ChangeShapes Go.WideShapes Go.ChangeAt Go.RowKit

theorem yat_mem {xs ys : List Yn} (h : xs = ys) (k : Nat) : yat xs k = yat ys k := by rw [h]

theorem eqY_in (a b c d e f : Int) (w : World) : (Op.equalIn 10000 26 (.agg #[.int .i16 a, .int .i16 b, .int .i16 c]) (.agg #[.int .i16 d, .int .i16 e, .int .i16 f])).run Try.prog w = .ok (decide ((a, b, c) = (d, e, f))) w := by
  have hu : Try.prog.underlying 26 = some (.struct (Try.prog.fieldsOf 26)) := by kernel_rfl
  have hp : Try.prog.stoodInHeld 26 = false := by kernel_rfl
  rw [run_equalIn_struct w 9999 _ _ _ hu hp]
  by_cases h1 : a = d
  · by_cases h2 : b = e
    · by_cases h3 : c = f
      · subst h1
        subst h2
        subst h3
        simp [go_sem]
      · simp [go_sem, h1, h2, h3]
    · simp [go_sem, h1, h2]
  · simp [go_sem, h1]
theorem eqY_yes (a b c : Int) (w : World) : (Op.equalIn 10000 26 (.agg #[.int .i16 a, .int .i16 b, .int .i16 c]) (.agg #[.int .i16 a, .int .i16 b, .int .i16 c])).run Try.prog w = .ok true w := by rw [eqY_in]; simp
theorem eqY_no {a b c d e f : Int} (h : ¬ ((a, b, c) : Yn) = (d, e, f)) (w : World) : (Op.equalIn 10000 26 (.agg #[.int .i16 a, .int .i16 b, .int .i16 c]) (.agg #[.int .i16 d, .int .i16 e, .int .i16 f])).run Try.prog w = .ok false w := by rw [eqY_in, decide_eq_false h]

set_option maxRecDepth 100000 in
set_option maxHeartbeats 2000000 in
theorem specSame_any (a b : Value) (xs ys : List Yn) (w : World) (ha : Yarns w a xs) (hb : Yarns w b ys) (hn : xs.length ≤ 2097152) (hn' : ys.length ≤ 2097152) :
    Calls Try.prog 11 #[a, b] w fun e w' => e = .returned (.bool (decide (xs = ys))) ∧ Below w.heap.size w w' := by
  by_cases hl : xs.length = ys.length
  · by_cases h0 : xs.length = 0
    · have hx : xs = [] := List.length_eq_zero_iff.1 h0
      have hy : ys = [] := List.length_eq_zero_iff.1 (by omega)
      subst hx
      subst hy
      obtain ⟨a1, c1, rfl⟩ := ha.nil
      obtain ⟨a2, c2, rfl⟩ := hb.nil
      clear ha hb hl h0 hn hn'
      go_enter Try.func11, Try.ntmps11
      go_wp2
      go_rounds 1
      go_ret
      exact ⟨rfl, Below.refl _ _⟩
    · obtain ⟨b1, o1, c1, rfl, hl1, hc1⟩ := ha.pos (by omega)
      obtain ⟨b2, o2, c2, rfl, hl2, hc2⟩ := hb.pos (by omega)
      clear ha hb
      have HE := Lib.hid (@eqY_of_all xs ys hl)
      rw [← hl] at hc2 hn' ⊢
      obtain ⟨r, hr⟩ : ∃ r, r = decide (xs = ys) := ⟨_, rfl⟩
      rw [← hr]
      have HR := Lib.hid hr
      clear hr
      obtain ⟨n, hln⟩ : ∃ n, n = xs.length := ⟨_, rfl⟩
      rw [← hln] at hc1 hc2 hn h0 HE ⊢
      clear hln hl hn'
      have H1 := Lib.hid hc1
      have H2 := Lib.hid hc2
      have hnn : ((n : Int) != (n : Int)) = false := by simp
      clear hc1 hc2
      go_enter Try.func11, Try.ntmps11
      go_wp2
      go_loopw [5] (fun i wr => ∃ k : Nat, k ≤ n ∧ i = .int .i64 k ∧ Hid (∀ j, j < k → yat xs j = yat ys j) ∧ ∃ nd, wr = w.drewN nd) (fun i _ => n - (intOf i).toNat)
      case atStart => exact ⟨0, Nat.zero_le _, rfl, fun j hj => by omega, 0, rfl⟩
      case round =>
        obtain ⟨k, hk, rfl, hS, nd, rfl⟩ := hrel
        by_cases hlt : k < n
        · obtain ⟨p1, p2, p3⟩ := H1.out k hlt
          obtain ⟨q1, q2, q3⟩ := H2.out k hlt
          obtain ⟨x, hx⟩ : ∃ x, x = yat xs k := ⟨_, rfl⟩
          obtain ⟨y, hy⟩ : ∃ y, y = yat ys k := ⟨_, rfl⟩
          rw [← hx] at p1 p2 p3
          rw [← hy] at q1 q2 q3
          obtain ⟨x0, x1, x2⟩ := x
          obtain ⟨y0, y1, y2⟩ := y
          simp only at p1 p2 p3 q1 q2 q3
          by_cases he : (x0, x1, x2) = (y0, y1, y2)
          · have HE2 := Lib.hid (hx.symm.trans (he.trans hy))
            simp only [Prod.mk.injEq] at he
            obtain ⟨rfl, rfl, rfl⟩ := he
            clear hx hy
            have hq := eqY_yes x0 x1 x2
            go_wp2
            go_region
            all_goals
              go_wp2
              go_roundw
              case rel =>
                refine ⟨k + 1, by omega, by go_num, fun j hj => ?_, nd + 1, rfl⟩
                by_cases hjk : j = k
                · subst hjk
                  exact HE2.out
                · exact hS.out j (by omega)
              case measure => simp [intOf]; omega
          · have hq := fun wx => eqY_no he wx
            have HE2 : Hid (r = false) := by
              rw [HR.out]
              refine decide_eq_false fun h => he ?_
              rw [hx, hy, h]
            clear hx hy he
            go_wp2
            go_region
            all_goals
              go_wp2
              go_ret
              exact ⟨ret_bool HE2.out.symm, bdN _ _⟩
        · have hkn : k = n := by omega
          subst hkn
          have HE2 : Hid (r = true) := by
            rw [HR.out]
            exact decide_eq_true (HE.out hS.out)
          go_wp2
          go_ret
          exact ⟨ret_bool HE2.out.symm, bdN _ _⟩
  · obtain ⟨a1, c1, rfl⟩ := ha.len
    obtain ⟨a2, c2, rfl⟩ := hb.len
    have hne : decide (xs = ys) = false := decide_eq_false fun e => hl (by rw [e])
    rw [hne]
    clear ha hb hne
    have hbn : ((xs.length : Int) != (ys.length : Int)) = true := by rw [bne_iff_ne]; omega
    go_enter Try.func11, Try.ntmps11
    go_wp2
    go_ret
    exact ⟨rfl, Below.refl _ _⟩
set_option maxRecDepth 100000 in
set_option maxHeartbeats 2000000 in
theorem implSame_any (a b : Value) (xs ys : List Yn) (w : World) (ha : Yarns w a xs) (hb : Yarns w b ys) (hn : xs.length ≤ 2097152) (hn' : ys.length ≤ 2097152) :
    Calls Try.prog 13 #[a, b] w fun e w' => e = .returned (.bool (decide (xs = ys))) ∧ Below w.heap.size w w' := by
  by_cases hl : xs.length = ys.length
  · by_cases h0 : xs.length = 0
    · have hx : xs = [] := List.length_eq_zero_iff.1 h0
      have hy : ys = [] := List.length_eq_zero_iff.1 (by omega)
      subst hx
      subst hy
      obtain ⟨a1, c1, rfl⟩ := ha.nil
      obtain ⟨a2, c2, rfl⟩ := hb.nil
      clear ha hb hl h0 hn hn'
      go_enter Try.func13, Try.ntmps13
      go_wp2
      go_rounds 1
      go_ret
      exact ⟨rfl, Below.refl _ _⟩
    · obtain ⟨b1, o1, c1, rfl, hl1, hc1⟩ := ha.pos (by omega)
      obtain ⟨b2, o2, c2, rfl, hl2, hc2⟩ := hb.pos (by omega)
      clear ha hb
      have HE := Lib.hid (@eqY_of_all xs ys hl)
      rw [← hl] at hc2 hn' ⊢
      obtain ⟨r, hr⟩ : ∃ r, r = decide (xs = ys) := ⟨_, rfl⟩
      rw [← hr]
      have HR := Lib.hid hr
      clear hr
      obtain ⟨n, hln⟩ : ∃ n, n = xs.length := ⟨_, rfl⟩
      rw [← hln] at hc1 hc2 hn h0 HE ⊢
      clear hln hl hn'
      have H1 := Lib.hid hc1
      have H2 := Lib.hid hc2
      have hnn : ((n : Int) != (n : Int)) = false := by simp
      clear hc1 hc2
      go_enter Try.func13, Try.ntmps13
      go_wp2
      go_loopw [14] (fun i wr => ∃ k : Nat, k ≤ n ∧ i = .int .i64 k ∧ Hid (∀ j, j < k → yat xs j = yat ys j) ∧ Below w.heap.size w wr) (fun i _ => n - (intOf i).toNat)
      case atStart => exact ⟨0, Nat.zero_le _, rfl, fun j hj => by omega, Below.refl _ _⟩
      case round =>
        obtain ⟨k, hk, rfl, hS, hB⟩ := hrel
        by_cases hlt : k < n
        · obtain ⟨p1, p2, p3⟩ := H1.out k hlt
          obtain ⟨q1, q2, q3⟩ := H2.out k hlt
          obtain ⟨x, hx⟩ : ∃ x, x = yat xs k := ⟨_, rfl⟩
          obtain ⟨y, hy⟩ : ∃ y, y = yat ys k := ⟨_, rfl⟩
          rw [← hx] at p1 p2 p3
          rw [← hy] at q1 q2 q3
          obtain ⟨x0, x1, x2⟩ := x
          obtain ⟨y0, y1, y2⟩ := y
          simp only at p1 p2 p3 q1 q2 q3
          have d1 := (hB.cell (p := ⟨b1, o1 + k * 3, none⟩) hl1).trans p1
          have d2 := (hB.cell (p := ⟨b1, o1 + k * 3 + 1, none⟩) hl1).trans p2
          have d3 := (hB.cell (p := ⟨b1, o1 + k * 3 + 2, none⟩) hl1).trans p3
          have HB := Lib.hid hB
          have hl2' : b2 < wr.heap.size := Nat.lt_of_lt_of_le hl2 hB.size
          have g1 : ∀ o, (wr.alloc o).cell? ⟨b2, o2 + k * 3, none⟩ = some (.int .i16 y0) := fun o => (World.cell?_alloc_lt wr o ⟨b2, _, none⟩ hl2').trans ((hB.cell (p := ⟨b2, o2 + k * 3, none⟩) hl2).trans q1)
          have g2 : ∀ o, (wr.alloc o).cell? ⟨b2, o2 + k * 3 + 1, none⟩ = some (.int .i16 y1) := fun o => (World.cell?_alloc_lt wr o ⟨b2, _, none⟩ hl2').trans ((hB.cell (p := ⟨b2, o2 + k * 3 + 1, none⟩) hl2).trans q2)
          have g3 : ∀ o, (wr.alloc o).cell? ⟨b2, o2 + k * 3 + 2, none⟩ = some (.int .i16 y2) := fun o => (World.cell?_alloc_lt wr o ⟨b2, _, none⟩ hl2').trans ((hB.cell (p := ⟨b2, o2 + k * 3 + 2, none⟩) hl2).trans q3)
          clear hB p1 p2 p3 q1 q2 q3
          by_cases he : (x0, x1, x2) = (y0, y1, y2)
          · have HE2 := Lib.hid (hx.symm.trans (he.trans hy))
            simp only [Prod.mk.injEq] at he
            obtain ⟨rfl, rfl, rfl⟩ := he
            clear hx hy
            have hq := eqY_yes x0 x1 x2
            go_wp2
            go_region
            all_goals
              go_wp2
              go_roundw
              case rel =>
                refine ⟨k + 1, by omega, by go_num, fun j hj => ?_, (HB.out.alloc HB.out.size _).drew⟩
                by_cases hjk : j = k
                · subst hjk
                  exact HE2.out
                · exact hS.out j (by omega)
              case measure => simp [intOf]; omega
          · have hq := fun wx => eqY_no he wx
            have HE2 : Hid (r = false) := by
              rw [HR.out]
              refine decide_eq_false fun h => he ?_
              rw [hx, hy, h]
            clear hx hy he
            go_wp2
            go_region
            all_goals
              go_wp2
              go_ret
              exact ⟨ret_bool HE2.out.symm, (HB.out.alloc HB.out.size _).drew⟩
        · have hkn : k = n := by omega
          subst hkn
          have HE2 : Hid (r = true) := by
            rw [HR.out]
            exact decide_eq_true (HE.out hS.out)
          have HB := Lib.hid hB
          clear hB
          go_wp2
          go_ret
          exact ⟨ret_bool HE2.out.symm, HB.out⟩
  · obtain ⟨a1, c1, rfl⟩ := ha.len
    obtain ⟨a2, c2, rfl⟩ := hb.len
    have hne : decide (xs = ys) = false := decide_eq_false fun e => hl (by rw [e])
    rw [hne]
    clear ha hb hne
    have hbn : ((xs.length : Int) != (ys.length : Int)) = true := by rw [bne_iff_ne]; omega
    go_enter Try.func13, Try.ntmps13
    go_wp2
    go_ret
    exact ⟨rfl, Below.refl _ _⟩

set_option linter.unusedVariables false in
set_option maxRecDepth 100000 in
set_option maxHeartbeats 4000000 in
theorem sameYarns_walk {H : Type} {enc : TypeId × Value → H} (w : World) (base : Nat)
    (v0 : Value) (d0 : DataW H) (p0 : List MemPlace) (o0 : Value.okWide Try.prog w .any base 29 v0) (k0 : DataW.Trod enc Try.prog w 0 (fun _ => true) true 29 v0 d0 p0)
    (v1 : Value) (d1 : DataW H) (p1 : List MemPlace) (o1 : Value.okWide Try.prog w .any base 29 v1) (k1 : DataW.Trod enc Try.prog w 0 (fun _ => true) true 29 v1 d1 p1) :
    Calls Try.prog 4 #[v0, v1] w fun e w' => e = .returned (.bool true) ∧ Below w.heap.size w w' := by
  obtain ⟨xs, hX, hxm⟩ := open_argY o0 k0
  obtain ⟨ys, hY, hym⟩ := open_argY o1 k1
  clear o0 k0 o1 k1
  obtain ⟨a0, c0, rfl⟩ := hX.len
  obtain ⟨a1, c1, rfl⟩ := hY.len
  by_cases hn : xs.length ≤ 1048576
  · by_cases hm : xs.length + ys.length ≤ 1048576
    · have Z1 := Lib.hid fun wx hx => szYarnS_any (.slice a0 xs.length c0) xs 1048576 wx hx (by omega) (by omega) (by omega)
      have Z2 := Lib.hid fun wx hx => szYarnS_any (.slice a1 ys.length c1) ys (1048576 - xs.length) wx hx (by omega) (by omega) (by omega)
      have hl1 : ¬ ((1048576 : Int) - (xs.length : Int) < 0) := by omega
      have hl2 : ¬ ((1048576 : Int) - (xs.length : Int) - (ys.length : Int) < 0) := by omega
      have cS := Lib.hid fun a b wx ha hb => specSame_any a b xs ys wx ha hb (by omega) (by omega)
      have cI := Lib.hid fun a b wx ha hb => implSame_any a b xs ys wx ha hb (by omega) (by omega)
      generalize decide (xs = ys) = r at cS cI
      have hne : (r != r) = false := by simp
      have HX := Lib.hid hX
      have HY := Lib.hid hY
      clear hX hY
      go_enter Try.func4, Try.ntmps4
      go_wp2_with fail
      refine (Z1.out _ HX.out).mono ?_
      rintro e w0 ⟨rfl, rfl⟩
      go_wp2_with fail
      refine (Z2.out _ HY.out).mono ?_
      rintro e w0 ⟨rfl, rfl⟩
      go_wp2_with fail
      refine (toYarnS_any _ xs _ HX.out hn).mono ?_
      rintro e w1 ⟨s1, rfl, own, hB⟩
      have T1 := Lib.hid hB
      have S1 := Lib.hid own
      clear hB own
      go_wp2_with fail
      refine (toYarnS_any _ ys _ (HY.out.below T1.out) (by omega)).mono ?_
      rintro e w2 ⟨s2, rfl, own, hB⟩
      have T2 := Lib.hid (T1.out.trans (hB.mono T1.out.size))
      have S2 := Lib.hid (S1.out.below hB)
      have U2 := Lib.hid own
      clear hB own S1
      go_wp2_with fail
      refine (cS.out s1 s2 w2 S2.out.yarns U2.out.yarns).mono ?_
      rintro e w3 ⟨rfl, hB⟩
      have T3 := Lib.hid (T2.out.trans (hB.mono T2.out.size))
      clear hB S2 U2
      go_wp2_with fail
      refine (toYarnS_any _ xs _ (HX.out.below T3.out) hn).mono ?_
      rintro e w4 ⟨x0, rfl, own, hB⟩
      have T4 := Lib.hid (T3.out.trans (hB.mono T3.out.size))
      have X4 := Lib.hid own
      clear hB own
      go_wp2_with fail
      refine (toYarnS_any _ ys _ (HY.out.below T4.out) (by omega)).mono ?_
      rintro e w5 ⟨x1, rfl, own, hB⟩
      have T5 := Lib.hid (T4.out.trans (hB.mono T4.out.size))
      have X5 := Lib.hid (X4.out.below hB)
      have Y5 := Lib.hid own
      clear hB own X4
      go_wp2_with fail
      refine (cI.out x0 x1 w5 X5.out.yarns Y5.out.yarns).mono ?_
      rintro e w6 ⟨rfl, hB⟩
      have T6 := Lib.hid (T5.out.trans (hB.mono T5.out.size))
      have X6 := Lib.hid (X5.out.below hB)
      have Y6 := Lib.hid (Y5.out.below hB)
      clear hB X5 Y5
      go_wp2_with fail
      refine (toYarnS_any _ xs _ (HX.out.below T6.out) hn).mono ?_
      rintro e w7 ⟨z7, rfl, own, hB⟩
      have T7 := Lib.hid (T6.out.trans (hB.mono T6.out.size))
      have X7 := Lib.hid (X6.out.below hB)
      have Y7 := Lib.hid (Y6.out.below hB)
      have Z7 := Lib.hid own
      clear hB own X6 Y6
      go_wp2_with fail
      refine (eqYarnS_self x0 z7 xs w7 X7.out.yarns Z7.out.yarns (by omega)).mono ?_
      rintro e w8 ⟨rfl, hB⟩
      have T8 := Lib.hid (T7.out.trans (hB.mono T7.out.size))
      have Y8 := Lib.hid (Y7.out.below hB)
      clear hB X7 Z7 Y7
      go_wp2_with fail
      refine (toYarnS_any _ ys _ (HY.out.below T8.out) (by omega)).mono ?_
      rintro e w9 ⟨z9, rfl, own, hB⟩
      have T9 := Lib.hid (T8.out.trans (hB.mono T8.out.size))
      have Y9 := Lib.hid (Y8.out.below hB)
      have Z9 := Lib.hid own
      clear hB own Y8
      go_wp2_with fail
      refine (eqYarnS_self x1 z9 ys w9 Y9.out.yarns Z9.out.yarns (by omega)).mono ?_
      rintro e w10 ⟨rfl, hB⟩
      have T10 := Lib.hid (T9.out.trans (hB.mono T9.out.size))
      clear hB
      go_wp2_with fail
      go_ret
      exact ⟨rfl, T10.out⟩
    · have Z1 := Lib.hid fun wx hx => szYarnS_any (.slice a0 xs.length c0) xs 1048576 wx hx (by omega) (by omega) (by omega)
      have Z2 := Lib.hid fun wx hx => szYarnS_no (.slice a1 ys.length c1) ys (1048576 - xs.length) wx hx (by omega) (by omega) (by omega) hym
      have hl1 : ¬ ((1048576 : Int) - (xs.length : Int) < 0) := by omega
      have HX := Lib.hid hX
      have HY := Lib.hid hY
      clear hX hY
      go_enter Try.func4, Try.ntmps4
      go_wp2_with fail
      refine (Z1.out _ HX.out).mono ?_
      rintro e w0 ⟨rfl, rfl⟩
      go_wp2_with fail
      refine (Z2.out _ HY.out).mono ?_
      rintro e w0 ⟨rfl, rfl⟩
      go_wp2_with fail
      go_ret
      exact ⟨rfl, Below.refl _ _⟩
  · have Z1 := Lib.hid fun wx hx => szYarnS_no (.slice a0 xs.length c0) xs 1048576 wx hx (by omega) (by omega) (by omega) hxm
    have HX := Lib.hid hX
    clear hX hY
    go_enter Try.func4, Try.ntmps4
    go_wp2_with fail
    refine (Z1.out _ HX.out).mono ?_
    rintro e w0 ⟨rfl, rfl⟩
    go_wp2_with fail
    go_ret
    exact ⟨rfl, Below.refl _ _⟩
end Go.Proofs.Ytpkjogenkdckpaa
