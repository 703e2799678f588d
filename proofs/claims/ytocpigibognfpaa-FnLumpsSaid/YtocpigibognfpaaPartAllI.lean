/-
  No statement is proved here: what PartAll of the program answers; condition: at most 1048576 stripes.
-/
import Derived.Test.YtocpigibognfpaaPartAll
import Derived.Deep.LoopGhost
namespace Go.Proofs.Ytocpigibognfpaa
open Go.ChangeShapes Go.WideShapes Go.ChangeAt Go.RowKit

set_option maxRecDepth 100000 in
set_option maxHeartbeats 4000000 in
theorem implPartAll_any (v : Value) (zs : List Int) (t m : Int) (w : World) (h : Ints w v zs) (hn : zs.length ≤ 1048576) :
    Calls Try.prog 13 #[v, .int .i64 t, .int .i64 m] w fun e w' => ∃ r, e = .returned (.tuple #[r, .int .i64 (pallF zs t m).2.1, .int .i64 (pallF zs t m).2.2]) ∧ Own w' w.heap.size r (pallF zs t m).1 ∧ Below w.heap.size w w' := by
  have hin := valid_any v zs w h hn
  cases hok : okW zs with
  | false =>
    rw [hok] at hin
    have HI := Lib.hid hin
    rw [pallF_no hok]
    clear hin hok h
    go_enter Try.func13, Try.ntmps13
    go_wp2_with fail
    go_step3
    go_wp2_with fail
    refine HI.out.mono ?_
    rintro e w' ⟨rfl, rfl⟩
    go_wp2_with fail
    rw [Exit.noGoto_ret]
    go_returns
    exact ⟨_, rfl, World.ownsRow_nil _ _ _ _, Below.refl _ _⟩
  | true =>
    rw [hok] at hin
    have HI := Lib.hid hin
    cases h23 : (inB t 1 12 && inB m 0 100) with
    | false =>
      rw [pallF_out hok h23]
      have hbad : t < 1 ∨ 12 < t ∨ m < 0 ∨ 100 < m := by
        by_cases a : 1 ≤ t ∧ t ≤ 12
        · rw [inB_mk a, Bool.true_and] at h23
          have := inB_no h23
          omega
        · omega
      clear hin hok h h23
      by_cases a1 : t < 1
      · go_enter Try.func13, Try.ntmps13
        go_wp2_with fail
        go_step3
        go_wp2_with fail
        refine HI.out.mono ?_
        rintro e w' ⟨rfl, rfl⟩
        go_wp2_with fail
        rw [Exit.noGoto_ret]
        go_returns
        exact ⟨_, rfl, World.ownsRow_nil _ _ _ _, Below.refl _ _⟩
      · by_cases a2 : 12 < t
        · go_enter Try.func13, Try.ntmps13
          go_wp2_with fail
          go_step3
          go_wp2_with fail
          refine HI.out.mono ?_
          rintro e w' ⟨rfl, rfl⟩
          go_wp2_with fail
          rw [Exit.noGoto_ret]
          go_returns
          exact ⟨_, rfl, World.ownsRow_nil _ _ _ _, Below.refl _ _⟩
        · by_cases a3 : m < 0
          · go_enter Try.func13, Try.ntmps13
            go_wp2_with fail
            go_step3
            go_wp2_with fail
            refine HI.out.mono ?_
            rintro e w' ⟨rfl, rfl⟩
            go_wp2_with fail
            rw [Exit.noGoto_ret]
            go_returns
            exact ⟨_, rfl, World.ownsRow_nil _ _ _ _, Below.refl _ _⟩
          · have a4 : 100 < m := by omega
            clear hbad
            go_enter Try.func13, Try.ntmps13
            go_wp2_with fail
            go_step3
            go_wp2_with fail
            refine HI.out.mono ?_
            rintro e w' ⟨rfl, rfl⟩
            go_wp2_with fail
            rw [Exit.noGoto_ret]
            go_returns
            exact ⟨_, rfl, World.ownsRow_nil _ _ _ _, Below.refl _ _⟩
    | true =>
      have h23' := h23
      rw [Bool.and_eq_true] at h23'
      have hb := inB_of h23'.1
      have hbm := inB_of h23'.2
      obtain ⟨f, rfl⟩ := Int.eq_ofNat_of_zero_le hbm.1
      rw [pallF_yes hok h23]
      have HOW := Lib.hid (clone_any v zs w h hn (by have := okW_len hok; omega))
      have HK := Lib.hid hok
      obtain ⟨R, hR⟩ : ∃ R, R = paF t f zs 0 := ⟨_, rfl⟩
      rw [← hR]
      have HR := Lib.hid hR
      clear hin hok h h23 h23' hR
      go_enter Try.func13, Try.ntmps13
      go_wp2_with fail
      go_step3
      go_wp2_with fail
      refine HI.out.mono ?_
      rintro e w' ⟨rfl, rfl⟩
      go_wp2_with fail
      refine HOW.out.mono ?_
      rintro e w1 ⟨r1, rfl, own, hB⟩
      have O1 := Lib.hid own
      have T1 := Lib.hid hB
      clear own hB
      go_wp2_with fail
      go_step3
      go_wp2_with fail
      obtain ⟨B, hBe⟩ : ∃ B, B = w.heap.size := ⟨_, rfl⟩
      rw [← hBe] at O1 T1
      have HB := Lib.hid hBe
      clear hBe
      go_loopg [9, 10] f (fun gh nv cc wr => ∃ (c : Nat) (u : Value) (cur : List Int), c + gh = f ∧ cc = .int .i64 c ∧ u = nv ∧ Hid (Own wr B nv cur) ∧ Hid (okW cur = true) ∧ Hid (paF t gh cur (c : Int) = R) ∧ Hid (Below B w wr))
      case atStart => exact ⟨0, _, zs, by omega, rfl, rfl, O1, HK, HR.out.symm, T1⟩
      case round =>
        clear O1 T1
        obtain ⟨c, u, cur, hc, rfl, rfl, hO, hK, hP, hE⟩ := hrel
        obtain ⟨a9, c9, rfl⟩ := hO.out.ints.len
        have hl := okW_len hK.out
        have hBw : B ≤ wr.heap.size := Nat.le_trans (Nat.le_of_eq HB.out) hE.out.size
        cases gk with
        | zero =>
          have hcf : c = f := by omega
          subst hcf
          have hP1 := hP.out
          rw [paF_zero] at hP1
          have HP1 := Lib.hid hP1
          clear hP1
          go_wp2_with fail
          rw [Exit.noGoto_ret]
          go_returns
          rw [← HP1.out]
          refine ⟨_, rfl, ?_, ?_⟩
          · have := hO.out
            rw [HB.out] at this
            exact this
          · have := hE.out
            rw [HB.out] at this
            exact this
        | succ g =>
          have hlt : (c : Int) < (f : Int) := by omega
          have HC := Lib.hid hc
          go_wp2_with fail
          obtain ⟨wo, hwo⟩ : ∃ wo, wo = wr := ⟨_, rfl⟩
          subst hwo
          obtain ⟨n, hln⟩ : ∃ n, n = cur.length := ⟨_, rfl⟩
          have HLN := Lib.hid hln
          rw [← hln] at hO hl
          have hO2 : Hid (Own wo B (.slice a9 n c9) cur) := hO
          clear hO
          simp only [← hln]
          clear hln
          go_loopg [9, 10, 36] n (fun g2 v9 v10 v36 wy => ∃ k : Nat, k + g2 = n ∧ v36 = .int .i64 k ∧ v9 = .slice a9 n c9 ∧ v10 = .int .i64 c ∧ Hid (lumpsTo cur t k = []) ∧ Hid (Below wo.heap.size wo wy))
          case atStart => exact ⟨0, by omega, rfl, rfl, rfl, by rfl, Below.refl _ _⟩
          case round =>
            obtain ⟨k, hk, rfl, rfl, rfl, hN, hBi⟩ := hrel
            have hEi := Lib.hid (hE.out.trans (hBi.out.mono hBw))
            have hOi := Lib.hid (hO2.out.below hBi.out)
            have hBwi : B ≤ wr.heap.size := Nat.le_trans hBw hBi.out.size
            cases gk with
            | zero =>
              have hkn : k = cur.length := by rw [← HLN.out]; omega
              have hP1 := hP.out
              rw [paF_none (by rw [← hkn]; exact hN.out)] at hP1
              have HP1 := Lib.hid hP1
              have hkn2 : ¬ ((k : Int) < (n : Int)) := by omega
              clear hP1 hkn
              go_wp2_with fail
              go_returns
              rw [← HP1.out]
              refine ⟨_, rfl, ?_, ?_⟩
              · have := hOi.out
                rw [HB.out] at this
                exact this
              · have := hEi.out
                rw [HB.out] at this
                exact this
            | succ g2 =>
              have hk2 : (k : Int) < (n : Int) := by omega
              have HKN := Lib.hid hk
              have hkl : k < cur.length := by rw [← HLN.out]; omega
              have hcall := isLump_any _ cur k t wr hOi.out.ints hK.out hkl hb.1 hb.2
              cases hlb : lumpB cur t k with
              | false =>
                rw [hlb] at hcall
                have HCL := Lib.hid hcall
                have HN2 : Hid (lumpsTo cur t (k + 1) = []) := by
                  show lumpsTo cur t (k + 1) = []
                  rw [lumpsTo, if_neg (by rw [hlb]; simp)]
                  exact hN.out
                clear hcall hlb
                go_wp2_with fail
                refine HCL.out.mono ?_
                rintro e w4 ⟨rfl, hB4⟩
                have T4 := Lib.hid (hBi.out.trans (hB4.mono hBi.out.size))
                clear hB4
                go_wp2_with fail
                go_roundg g2
                case measure => omega
                case rel => exact ⟨k + 1, by omega, by go_num, rfl, rfl, HN2, T4⟩
              | true =>
                rw [hlb] at hcall
                have HCL := Lib.hid hcall
                have HHD := Lib.hid (lumpsTo_head cur t k hN.out hlb cur.length hkl)
                have hP1 := hP.out
                obtain ⟨tl, htl⟩ := HHD.out
                rw [paF_some htl] at hP1
                have HP1 := Lib.hid hP1
                have HPT := Lib.hid fun wx (hx : Below wr.heap.size wr wx) => parted_any _ cur k wx (hOi.out.below hx).ints hK.out hkl
                have HV := Lib.hid fun r wx (hx : Ints wx r (partL cur k)) => valid_any r (partL cur k) wx hx (by rw [partL_length, ← HLN.out]; omega)
                clear hcall hlb hP1 htl
                go_wp2_with fail
                refine HCL.out.mono ?_
                rintro e w4 ⟨rfl, hB4⟩
                have T4 := Lib.hid (hEi.out.trans (hB4.mono hBwi))
                have HC5 := Lib.hid (HPT.out w4 hB4)
                have hBw4 : B ≤ w4.heap.size := Nat.le_trans hBwi hB4.size
                clear hB4
                go_wp2_with fail
                refine HC5.out.mono ?_
                rintro e w5 ⟨r5, rfl, own5, hB5⟩
                have T5 := Lib.hid (T4.out.trans (hB5.mono hBw4))
                have O5 := Lib.hid (own5.mono hBw4)
                clear own5 hB5
                go_wp2_with fail
                refine (HV.out r5 w5 O5.out.ints).mono ?_
                rintro e w6 ⟨rfl, rfl⟩
                cases hk5 : okW (partL cur k) with
                | false =>
                  have hP2 := HP1.out
                  rw [hk5] at hP2
                  have HP2 := Lib.hid hP2
                  clear hP2
                  go_wp2_with fail
                  rw [Exit.noGoto_ret]
                  go_returns
                  rw [← HP2.out]
                  refine ⟨_, rfl, World.ownsRow_nil _ _ _ _, ?_⟩
                  have := T5.out
                  rw [HB.out] at this
                  exact this
                | true =>
                  have hP2 := HP1.out
                  rw [hk5, if_pos rfl] at hP2
                  have HP2 := Lib.hid hP2
                  have HK5 := Lib.hid hk5
                  clear hP2 hk5
                  go_wp2_with fail
                  go_roundg g
                  case measure => omega
                  case rel => exact ⟨c + 1, _, partL cur k, by omega, by go_num, rfl, O5, HK5, HP2, T5⟩
end Go.Proofs.Ytocpigibognfpaa
