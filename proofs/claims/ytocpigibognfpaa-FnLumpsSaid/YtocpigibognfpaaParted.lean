/-
  No statement is proved here: how a stripe is parted, in the program; condition: the web is valid.
-/
import Derived.Test.YtocpigibognfpaaPart
namespace Go.Proofs.Ytocpigibognfpaa
open Go.ChangeShapes Go.WideShapes Go.ChangeAt Go.RowKit

set_option maxRecDepth 100000 in
set_option maxHeartbeats 2000000 in
theorem parted_any (v : Value) (zs : List Int) (i : Nat) (w : World) (h : Ints w v zs) (hok : okW zs = true) (hi : i < zs.length) :
    Calls Try.prog 33 #[v, .int .i64 i] w fun e w' => ∃ r, e = .returned r ∧ Own w' w.heap.size r (partL zs i) ∧ Below w.heap.size w w' := by
  have hl := okW_len hok
  have hu := upTo_mono (okW_up hok) (show (10000 : Int) ≤ 1000000 by omega)
  have hs := sum_bd_all hu
  have hz := okW_get hok i hi
  have hgt := okW_get hok
  have hbw0 := h.blk (by omega)
  have HOW := Lib.hid (clone_any v zs w h (by omega) (by omega))
  have HT := Lib.hid fun wx hx => sumOf_any v zs wx hx (by omega) hu
  have hI := Lib.hid fun wx (hb : Below w.heap.size w wx) => h.below hb
  obtain ⟨b1, o1, c1, rfl, hc1⟩ := h.pos (by omega)
  have hbw : b1 < w.heap.size := hbw0 b1 o1 none _ _ rfl
  have cz := hc1 i hi
  have hm : moreOf zs i = max 0 (zs.getD i 0 - zs.sum / (zs.length : Int)) := rfl
  obtain ⟨q, hq⟩ : ∃ q, q = zs.sum / (zs.length : Int) := ⟨_, rfl⟩
  have hqb : 0 ≤ q ∧ q ≤ 1000000 := by
    rw [hq]
    refine ⟨Int.ediv_nonneg hs.1 (by omega), ?_⟩
    exact Int.ediv_le_of_le_mul (by omega) (by omega)
  have hqt : zs.sum.tdiv (zs.length : Int) = q := by rw [hq]; exact Int.tdiv_eq_ediv_of_nonneg hs.1
  rw [← hq] at hm
  have hlt := left_eq hi
  have hrt := right_eq hi
  obtain ⟨l, hle⟩ : ∃ l, l = leftOf zs.length i := ⟨_, rfl⟩
  obtain ⟨r, hre⟩ : ∃ r, r = rightOf zs.length i := ⟨_, rfl⟩
  rw [← hle] at hlt
  rw [← hre] at hrt
  have hlb : l < zs.length := by rw [hlt]; split <;> omega
  have hrb : r < zs.length := by rw [hrt]; split <;> omega
  have hil : i ≠ l := by rw [hlt]; split <;> omega
  have hir : i ≠ r := by rw [hrt]; split <;> omega
  have ml : ((i : Int) + (zs.length : Int) - 1) % (zs.length : Int) = (l : Int) := by
    have e1 : ((i : Int) + (zs.length : Int) - 1) = ((i + zs.length - 1 : Nat) : Int) := by omega
    rw [e1, hle, leftOf]
    omega
  have mr : ((i : Int) + 1) % (zs.length : Int) = (r : Int) := by
    have e1 : ((i : Int) + 1) = ((i + 1 : Nat) : Int) := by omega
    rw [e1, hre, rightOf]
    omega
  have ml2 : ((i : Int) + (zs.length : Int) - 1).tmod (zs.length : Int) = (l : Int) := by rw [Int.tmod_eq_emod_of_nonneg (by omega), ml]
  have mr2 : ((i : Int) + 1).tmod (zs.length : Int) = (r : Int) := by rw [Int.tmod_eq_emod_of_nonneg (by omega), mr]
  have P0 := Lib.hid fun h => partL_none zs i hi (by rw [← hle]; exact hlb) (by rw [← hre]; exact hrb) h
  have P1 := Lib.hid fun e he hlr => partL_two zs i l r e hi hlb hrb hle.symm hre.symm he hil hir hlr
  have P2 := Lib.hid fun e he (hlr : l = r) => partL_one zs i l e hlb hle.symm (by rw [hlr]; exact hre.symm) he hil
  have yl := hgt l hlb
  have yr := hgt r hrb
  obtain ⟨z, hzz⟩ : ∃ z, z = zs.getD i 0 := ⟨_, rfl⟩
  obtain ⟨y, hyy⟩ : ∃ y, y = zs.getD l 0 := ⟨_, rfl⟩
  obtain ⟨x, hxx⟩ : ∃ x, x = zs.getD r 0 := ⟨_, rfl⟩
  rw [← hzz] at cz hz hm P1 P2
  rw [← hyy] at yl P1 P2
  rw [← hxx] at yr P1
  obtain ⟨S, hS⟩ : ∃ S, S = zs.sum := ⟨_, rfl⟩
  rw [← hS] at HT hs hqt
  have HOKZ := Lib.hid hok
  have CL := Lib.hid (cellOf (zs := zs) (j := l) hlb)
  obtain ⟨m, hme⟩ : ∃ m, m = moreOf zs i := ⟨_, rfl⟩
  rw [← hme] at hm P0 P1 P2
  obtain ⟨n, hln⟩ : ∃ n, n = zs.length := ⟨_, rfl⟩
  have HLN := Lib.hid hln
  rw [← hln] at HT hI HOW hi hlb hrb hl hs hqt ml mr ml2 mr2 ⊢
  have HY := Lib.hid hyy
  have HX := Lib.hid hxx
  have HZ := Lib.hid hzz
  clear hc1 hq hlt hrt hle hre hzz hyy hxx hS hme hln hok hu hgt hbw0
  by_cases hd : z - q ≤ 0
  · have hm0 : m = 0 := by omega
    have hx1 : IntKind.i64.wrap (S.tdiv (n : Int)) = q := by rw [hqt]; exact IntWalk.i64_in _ (by omega)
    obtain ⟨d, hdd⟩ : ∃ d, d = z - q := ⟨_, rfl⟩
    have hx2 : IntKind.i64.wrap (z - q) = d := by rw [hdd]; exact IntWalk.i64_in _ (by omega)
    have hd0 : ¬ (0 < d) := by omega
    have HM := Lib.hid hm0
    clear P0 hm hm0 hdd hd h
    go_enter Try.func33, Try.ntmps33
    go_wp2_with fail
    refine HOW.out.mono ?_
    rintro e w1 ⟨r1, rfl, own, hB⟩
    have cz1 : w1.cell? ⟨b1, o1 + i, none⟩ = some (.int .i64 z) := (hB.cell (p := ⟨b1, o1 + i, none⟩) hbw).trans cz
    have T1 := Lib.hid hB
    have hrow := own.row
    have hblk := own.block
    rw [← HLN.out] at hrow hblk
    rcases hblk with ⟨hze, _⟩ | ⟨g, cap, rfl, hbg, hg, hob, hcc, hff⟩
    · exfalso
      have := HLN.out
      rw [hze] at this
      simp at this
      omega
    have ci := hcc i hi
    have cl := hcc l hlb
    have cr := hcc r hrb
    have fi := hff i
    have fl := hff l
    have fr := hff r
    rw [← HZ.out] at ci
    rw [← HY.out] at cl
    rw [← HX.out] at cr
    have HR := Lib.hid hrow
    clear hB own hrow hob hcc hff
    go_wp2_with fail
    go_quiet ((go_at_call 38; exact Calls.quiet_of_same ((HT.out _ (hI.out _ (T1.out.trans ((bdN w1 _).mono T1.out.size)))).mono fun _ _ ⟨he, hw⟩ => ⟨he, hw.symm⟩)))
    by_cases hlr : l = r
    · subst hlr
      go_wp2_with fail
      go_returns
      refine ⟨_, rfl, three_own HR.out nq i l l z y y (partL zs i) (by simpa using P2.out 0 HM.out (by first | rfl | trivial)) (by rw [partL_length, ← HLN.out]), three_below T1.out hbg nq i l l _ _ _⟩
    · go_wp2_with fail
      go_returns
      refine ⟨_, rfl, three_own HR.out nq i l r z y x (partL zs i) (by simpa using P1.out 0 HM.out hlr) (by rw [partL_length, ← HLN.out]), three_below T1.out hbg nq i l r _ _ _⟩
  · have hm0 : m = z - q := by omega
    have hx1 : IntKind.i64.wrap (S.tdiv (n : Int)) = q := by rw [hqt]; exact IntWalk.i64_in _ (by omega)
    have hx2 : IntKind.i64.wrap (z - q) = m := by rw [hm0]; exact IntWalk.i64_in _ (by omega)
    have hmp : 0 < m := by omega
    have hml : m ≤ 10000 := by omega
    clear hm hm0 P0 hd h
    go_enter Try.func33, Try.ntmps33
    go_wp2_with fail
    refine HOW.out.mono ?_
    rintro e w1 ⟨r1, rfl, own, hB⟩
    have cz1 : w1.cell? ⟨b1, o1 + i, none⟩ = some (.int .i64 z) := (hB.cell (p := ⟨b1, o1 + i, none⟩) hbw).trans cz
    have T1 := Lib.hid hB
    have hrow := own.row
    have hblk := own.block
    rw [← HLN.out] at hrow hblk
    rcases hblk with ⟨hze, _⟩ | ⟨g, cap, rfl, hbg, hg, hob, hcc, hff⟩
    · exfalso
      have := HLN.out
      rw [hze] at this
      simp at this
      omega
    have ci := hcc i hi
    have cl := hcc l hlb
    have cr := hcc r hrb
    have fi := hff i
    have fl := hff l
    have fr := hff r
    rw [← HZ.out] at ci
    rw [← HY.out] at cl
    rw [← HX.out] at cr
    have HR := Lib.hid hrow
    clear hB own hrow hob hcc hff
    go_wp2_with fail
    go_quiet ((go_at_call 38; exact Calls.quiet_of_same ((HT.out _ (hI.out _ (T1.out.trans ((bdN w1 _).mono T1.out.size)))).mono fun _ _ ⟨he, hw⟩ => ⟨he, hw.symm⟩)))
    by_cases hlr : l = r
    · subst hlr
      go_wp2_with fail
      go_returns
      refine ⟨_, rfl, three_own HR.out nq i l l (z - m) (y + (m - m / 2)) (y + (m - m / 2) + m / 2) (partL zs i) (P2.out m (by first | rfl | trivial) (by first | rfl | trivial)) (by rw [partL_length, ← HLN.out]), three_below T1.out hbg nq i l l _ _ _⟩
    · go_wp2_with fail
      go_returns
      refine ⟨_, rfl, three_own HR.out nq i l r (z - m) (y + (m - m / 2)) (x + m / 2) (partL zs i) (P1.out m (by first | rfl | trivial) hlr) (by rw [partL_length, ← HLN.out]), three_below T1.out hbg nq i l r _ _ _⟩
end Go.Proofs.Ytocpigibognfpaa
