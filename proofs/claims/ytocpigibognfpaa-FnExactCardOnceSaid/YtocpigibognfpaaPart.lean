/-
  No statement is proved here: how a stripe is parted, in the document's own text; condition: the web is valid.
-/
import Derived.Test.YtocpigibognfpaaClone
import Derived.Deep.QuietTactic
namespace Go.Proofs.Ytocpigibognfpaa
open Go.ChangeShapes Go.WideShapes Go.ChangeAt Go.RowKit

/-- What the stripe i has more than the mean, rounded down. -/
def moreOf (zs : List Int) (i : Nat) : Int := max 0 (zs.getD i 0 - zs.sum / (zs.length : Int))
def leftOf (n i : Nat) : Nat := (i + n - 1) % n
def rightOf (n i : Nat) : Nat := (i + 1) % n
def putAdd (zs : List Int) (i : Nat) (a : Int) : List Int := zs.set i (zs.getD i 0 + a)
/-- The web with the stripe i parted. -/
def partL (zs : List Int) (i : Nat) : List Int :=
  putAdd (putAdd (zs.set i (zs.getD i 0 - moreOf zs i)) (leftOf zs.length i) (moreOf zs i - moreOf zs i / 2)) (rightOf zs.length i) (moreOf zs i / 2)
theorem partL_length (zs : List Int) (i : Nat) : (partL zs i).length = zs.length := by simp [partL, putAdd]
set_option linter.unusedVariables false in
theorem set_self (zs : List Int) (i : Nat) (hi : i < zs.length) : zs.set i (zs.getD i 0) = zs := by
  refine ext_getD (by simp) fun j hj => ?_
  simp only [List.length_set] at hj
  rw [getD_set _ _ _ _ hj]
  split
  · rename_i e; rw [e]
  · rfl
theorem partL_none (zs : List Int) (i : Nat) (hi : i < zs.length) (hl : leftOf zs.length i < zs.length) (hr : rightOf zs.length i < zs.length) (h : moreOf zs i = 0) : partL zs i = zs := by
  unfold partL putAdd
  rw [h]
  simp only [Int.sub_zero, Int.add_zero, Int.zero_ediv]
  rw [set_self zs i hi, set_self zs _ hl, set_self zs _ hr]
set_option linter.unusedVariables false in
/-- The left and the right neighbour are two. -/
theorem partL_two (zs : List Int) (i l r : Nat) (e : Int) (hi : i < zs.length) (hl : l < zs.length) (hr : r < zs.length) (el : leftOf zs.length i = l) (er : rightOf zs.length i = r) (ee : moreOf zs i = e) (hil : i ≠ l) (hir : i ≠ r) (hlr : l ≠ r) :
    ((zs.set i (zs.getD i 0 - e)).set l (zs.getD l 0 + (e - e / 2))).set r (zs.getD r 0 + e / 2) = partL zs i := by
  unfold partL putAdd
  rw [el, er, ee, getD_set _ _ _ _ hl, if_neg hil, getD_set _ _ _ _ (by simpa using hr), if_neg hlr, getD_set _ _ _ _ hr, if_neg hir]
/-- They are one. -/
theorem partL_one (zs : List Int) (i l : Nat) (e : Int) (hl : l < zs.length) (el : leftOf zs.length i = l) (er : rightOf zs.length i = l) (ee : moreOf zs i = e) (hil : i ≠ l) :
    ((zs.set i (zs.getD i 0 - e)).set l (zs.getD l 0 + (e - e / 2))).set l (zs.getD l 0 + (e - e / 2) + e / 2) = partL zs i := by
  unfold partL putAdd
  rw [el, er, ee, getD_set _ _ _ _ hl, if_neg hil, getD_set _ _ _ _ (by simpa using hl), if_pos rfl]

theorem left_eq {n i : Nat} (hi : i < n) : leftOf n i = if i = 0 then n - 1 else i - 1 := by
  unfold leftOf
  split
  · subst_vars
    rw [Nat.zero_add, Nat.mod_eq_of_lt (by omega)]
  · rw [show i + n - 1 = i - 1 + n by omega, Nat.add_mod_right, Nat.mod_eq_of_lt (by omega)]
theorem right_eq {n i : Nat} (hi : i < n) : rightOf n i = if i + 1 = n then 0 else i + 1 := by
  unfold rightOf
  split
  · rename_i h
    rw [h, Nat.mod_self]
  · rw [Nat.mod_eq_of_lt (by omega)]

set_option maxRecDepth 100000 in
set_option maxHeartbeats 2000000 in
theorem own_any (v : Value) (zs : List Int) (w : World) (h : Ints w v zs) (hn : zs.length ≤ 1048576) (hp : 0 < zs.length) :
    Calls Try.prog 37 #[v] w fun e w' => ∃ r, e = .returned r ∧ Own w' w.heap.size r zs ∧ Below w.heap.size w w' := by
  obtain ⟨i0, hi, hz0, hz1, hz2⟩ := info_parts info64
  have hbw0 := h.blk hp
  obtain ⟨b1, o1, c1, rfl, hc1⟩ := h.pos hp
  have hbw : b1 < w.heap.size := hbw0 b1 o1 none _ _ rfl
  clear h hbw0
  have hc2 : ∀ j, j < zs.length → (w.alloc (.cells #[] 2)).cell? ⟨b1, o1 + j, none⟩ = some (.int .i64 (zs.getD j 0)) := fun j hj => (((Below.refl w.heap.size w).alloc (Nat.le_refl _) _).cell (p := ⟨b1, o1 + j, none⟩) hbw).trans (hc1 j hj)
  have N1 := Lib.hid (news_of rfl hc2)
  have O1 := Lib.hid (World.ownsRow_made (base := w.heap.size) (e := 2) (size := 1) w #[] 0 (Nat.le_refl _) (by decide) rfl)
  unfold Own
  have HM := Lib.hid (show (zs.map (Value.int .i64)).length = zs.length from List.length_map _)
  obtain ⟨n, hln⟩ : ∃ n, n = zs.length := ⟨_, rfl⟩
  rw [← hln] at hn hp HM ⊢
  clear hln hc1 hc2
  go_enter Try.func37, Try.ntmps37
  go_wp2_with (first
    | (at_builtin; refine wpList_append_lies _ rfl _ _ _ rfl w.heap.size 2 i0 (.int .i64 0) 1 8 Try.underlying24 hi hz0 hz1 hz2 rfl (by omega) _ 0 [] rfl O1.out ⟨b1, o1, none⟩ n c1 (zs.map (Value.int .i64)) rfl (by rw [HM.out, Nat.mul_one]) N1.out (ints_oneCell _ _) (by omega) (by unfold maxLen; omega) (by omega) (by simp) (w.heap.size + 1) (by simp) ?_; intro gg cap w1 hown1 hgrow hat hlt2)
    | go_in)
  go_returns
  have hrow := grown_alloc hgrow
  refine ⟨_, rfl, ?_, (Below.refl _ _).grown hrow (Nat.le_refl _) (fun k hk => ?_)⟩
  · simpa using hown1
  · exact Nat.le_of_eq (Option.some.inj hk)

theorem three_stored {w : World} {base g n cap : Nat} {zs : List Int} (h : w.ownsRow base 2 1 (.slice (some ⟨g, 0, none⟩) n cap) n (zs.map (Value.int .i64))) (nd i l r : Nat) (a b c : Int) (ys : List Int) (hy : ((zs.set i a).set l b).set r c = ys) :
    ((((w.drewN nd).setCell ⟨g, i, none⟩ (.int .i64 a)).setCell ⟨g, l, none⟩ (.int .i64 b)).setCell ⟨g, r, none⟩ (.int .i64 c)).ownsRow base 2 1 (.slice (some ⟨g, 0, none⟩) n cap) n (ys.map (Value.int .i64)) := by
  have h0 : (w.drewN nd).ownsRow base 2 1 (.slice (some ⟨g, 0, none⟩) n cap) n (zs.map (Value.int .i64)) := h
  have h3 := (((h0.stored i (.int .i64 a)).1.stored l (.int .i64 b)).1.stored r (.int .i64 c)).1
  rw [← List.map_set, ← List.map_set, ← List.map_set, hy] at h3
  exact h3
theorem three_own {w : World} {base g n cap : Nat} {zs : List Int} (h : w.ownsRow base 2 1 (.slice (some ⟨g, 0, none⟩) n cap) n (zs.map (Value.int .i64))) (nd i l r : Nat) (a b c : Int) (ys : List Int) (hy : ((zs.set i a).set l b).set r c = ys) (hn : ys.length = n) :
    Own ((((w.drewN nd).setCell ⟨g, i, none⟩ (.int .i64 a)).setCell ⟨g, l, none⟩ (.int .i64 b)).setCell ⟨g, r, none⟩ (.int .i64 c)) base (.slice (some ⟨g, 0, none⟩) n cap) ys := by
  unfold Own
  rw [hn]
  exact three_stored h nd i l r a b c ys hy
theorem three_below {w w1 : World} {B g : Nat} (h : Below B w w1) (hg : B ≤ g) (nd i l r : Nat) (a b c : Value) : Below B w ((((w1.drewN nd).setCell ⟨g, i, none⟩ a).setCell ⟨g, l, none⟩ b).setCell ⟨g, r, none⟩ c) :=
  (((below_drewN h nd).setCell (p := ⟨g, i, none⟩) hg a).setCell (p := ⟨g, l, none⟩) hg b).setCell (p := ⟨g, r, none⟩) hg c

set_option maxRecDepth 100000 in
set_option maxHeartbeats 2000000 in
theorem l02Part_any (v : Value) (zs : List Int) (i : Nat) (w : World) (h : Ints w v zs) (hok : okW zs = true) (hi : i < zs.length) :
    Calls Try.prog 35 #[v, .int .i64 i] w fun e w' => ∃ r, e = .returned (.tuple #[r, .bool (okW (partL zs i))]) ∧ Own w' w.heap.size r (partL zs i) ∧ Below w.heap.size w w' := by
  have hl := okW_len hok
  have hu := upTo_mono (okW_up hok) (show (10000 : Int) ≤ 1000000 by omega)
  have hs := sum_bd_all hu
  have hz := okW_get hok i hi
  have hgt := okW_get hok
  have hbw0 := h.blk (by omega)
  have HOW := Lib.hid (own_any v zs w h (by omega) (by omega))
  have HT := Lib.hid fun wx hx => l02Total_any v zs wx hx (by omega) hu
  have hI := Lib.hid fun wx (hb : Below w.heap.size w wx) => h.below hb
  have HOK := Lib.hid fun r wx (hx : Ints wx r (partL zs i)) => l02Ok_any r (partL zs i) wx hx (by rw [partL_length]; omega)
  obtain ⟨b1, o1, c1, rfl, hc1⟩ := h.pos (by omega)
  have hbw : b1 < w.heap.size := hbw0 b1 o1 none _ _ rfl
  have cz := hc1 i hi
  have hm : moreOf zs i = max 0 (zs.getD i 0 - zs.sum / (zs.length : Int)) := rfl
  obtain ⟨q, hq⟩ : ∃ q, q = zs.sum / (zs.length : Int) := ⟨_, rfl⟩
  have hqb : 0 ≤ q ∧ q ≤ 1000000 := by
    rw [hq]
    refine ⟨Int.ediv_nonneg hs.1 (by omega), ?_⟩
    exact Int.ediv_le_of_le_mul (by omega) (by omega)
  have hqt : zs.sum.tdiv (zs.length : Int) = q := by rw [hq]; exact Int.tdiv_eq_ediv_of_nonneg hs.1
  rw [← hq] at hm
  have hlt := left_eq hi
  have hrt := right_eq hi
  obtain ⟨l, hle⟩ : ∃ l, l = leftOf zs.length i := ⟨_, rfl⟩
  obtain ⟨r, hre⟩ : ∃ r, r = rightOf zs.length i := ⟨_, rfl⟩
  rw [← hle] at hlt
  rw [← hre] at hrt
  have hlb : l < zs.length := by rw [hlt]; split <;> omega
  have hrb : r < zs.length := by rw [hrt]; split <;> omega
  have hil : i ≠ l := by rw [hlt]; split <;> omega
  have hir : i ≠ r := by rw [hrt]; split <;> omega
  have ml : ((i : Int) + (zs.length : Int) - 1) % (zs.length : Int) = (l : Int) := by
    have e1 : ((i : Int) + (zs.length : Int) - 1) = ((i + zs.length - 1 : Nat) : Int) := by omega
    rw [e1, hle, leftOf]
    omega
  have mr : ((i : Int) + 1) % (zs.length : Int) = (r : Int) := by
    have e1 : ((i : Int) + 1) = ((i + 1 : Nat) : Int) := by omega
    rw [e1, hre, rightOf]
    omega
  have ml2 : ((i : Int) + (zs.length : Int) - 1).tmod (zs.length : Int) = (l : Int) := by rw [Int.tmod_eq_emod_of_nonneg (by omega), ml]
  have mr2 : ((i : Int) + 1).tmod (zs.length : Int) = (r : Int) := by rw [Int.tmod_eq_emod_of_nonneg (by omega), mr]
  have P0 := Lib.hid fun h => partL_none zs i hi (by rw [← hle]; exact hlb) (by rw [← hre]; exact hrb) h
  have P1 := Lib.hid fun e he hlr => partL_two zs i l r e hi hlb hrb hle.symm hre.symm he hil hir hlr
  have P2 := Lib.hid fun e he (hlr : l = r) => partL_one zs i l e hlb hle.symm (by rw [hlr]; exact hre.symm) he hil
  have yl := hgt l hlb
  have yr := hgt r hrb
  obtain ⟨z, hzz⟩ : ∃ z, z = zs.getD i 0 := ⟨_, rfl⟩
  obtain ⟨y, hyy⟩ : ∃ y, y = zs.getD l 0 := ⟨_, rfl⟩
  obtain ⟨x, hxx⟩ : ∃ x, x = zs.getD r 0 := ⟨_, rfl⟩
  rw [← hzz] at cz hz hm P1 P2
  rw [← hyy] at yl P1 P2
  rw [← hxx] at yr P1
  obtain ⟨S, hS⟩ : ∃ S, S = zs.sum := ⟨_, rfl⟩
  rw [← hS] at HT hs hqt
  have HOKZ := Lib.hid hok
  have CL := Lib.hid (cellOf (zs := zs) (j := l) hlb)
  obtain ⟨m, hme⟩ : ∃ m, m = moreOf zs i := ⟨_, rfl⟩
  rw [← hme] at hm P0 P1 P2
  obtain ⟨n, hln⟩ : ∃ n, n = zs.length := ⟨_, rfl⟩
  have HLN := Lib.hid hln
  rw [← hln] at HT hI HOW hi hlb hrb hl hs hqt ml mr ml2 mr2 ⊢
  have HY := Lib.hid hyy
  have HX := Lib.hid hxx
  have HZ := Lib.hid hzz
  clear hc1 hq hlt hrt hle hre hzz hyy hxx hS hme hln hok hu hgt hbw0
  by_cases hd : z - q ≤ 0
  · have hm0 : m = 0 := by omega
    have HP := Lib.hid (P0.out hm0)
    rw [HP.out, HOKZ.out]
    have hx1 : IntKind.i64.wrap (S.tdiv (n : Int)) = q := by rw [hqt]; exact IntWalk.i64_in _ (by omega)
    obtain ⟨d, hdd⟩ : ∃ d, d = z - q := ⟨_, rfl⟩
    have hx2 : IntKind.i64.wrap (z - q) = d := by rw [hdd]; exact IntWalk.i64_in _ (by omega)
    have hd0 : d ≤ 0 := by omega
    clear P0 P1 P2 hm hm0 hdd hd HOK h
    go_enter Try.func35, Try.ntmps35
    go_wp2_with fail
    refine HOW.out.mono ?_
    rintro e w1 ⟨r1, rfl, own, hB⟩
    have cz1 : w1.cell? ⟨b1, o1 + i, none⟩ = some (.int .i64 z) := (hB.cell (p := ⟨b1, o1 + i, none⟩) hbw).trans cz
    have T1 := Lib.hid hB
    have O1 := Lib.hid own
    clear hB own
    go_wp2_with fail
    go_quiet ((go_at_call 48; exact Calls.quiet_of_same ((HT.out _ (hI.out _ (T1.out.trans ((bdN w1 _).mono T1.out.size)))).mono fun _ _ ⟨he, hw⟩ => ⟨he, hw.symm⟩)))
    go_wp2_with fail
    go_returns
    exact ⟨_, rfl, O1.out.below (bdN w1 _), T1.out.trans ((bdN w1 _).mono T1.out.size)⟩
  · have hm0 : m = z - q := by omega
    have hx1 : IntKind.i64.wrap (S.tdiv (n : Int)) = q := by rw [hqt]; exact IntWalk.i64_in _ (by omega)
    have hx2 : IntKind.i64.wrap (z - q) = m := by rw [hm0]; exact IntWalk.i64_in _ (by omega)
    have hmp : 0 < m := by omega
    have hml : m ≤ 10000 := by omega
    clear hm hm0 P0 hd h
    go_enter Try.func35, Try.ntmps35
    go_wp2_with fail
    refine HOW.out.mono ?_
    rintro e w1 ⟨r1, rfl, own, hB⟩
    have cz1 : w1.cell? ⟨b1, o1 + i, none⟩ = some (.int .i64 z) := (hB.cell (p := ⟨b1, o1 + i, none⟩) hbw).trans cz
    have T1 := Lib.hid hB
    have hrow := own.row
    have hblk := own.block
    rw [← HLN.out] at hrow hblk
    rcases hblk with ⟨hze, _⟩ | ⟨g, cap, rfl, hbg, hg, hob, hcc, hff⟩
    · exfalso
      have := HLN.out
      rw [hze] at this
      simp at this
      omega
    have ci := hcc i hi
    have cl := hcc l hlb
    have cr := hcc r hrb
    have fi := hff i
    have fl := hff l
    have fr := hff r
    rw [← HZ.out] at ci
    rw [← HY.out] at cl
    rw [← HX.out] at cr
    have HR := Lib.hid hrow
    clear hB own hrow hob hcc hff
    go_wp2_with fail
    go_quiet ((go_at_call 48; exact Calls.quiet_of_same ((HT.out _ (hI.out _ (T1.out.trans ((bdN w1 _).mono T1.out.size)))).mono fun _ _ ⟨he, hw⟩ => ⟨he, hw.symm⟩)))
    by_cases hlr : l = r
    · subst hlr
      go_wp2_with fail
      have E1 : Hid ((m + 1) / 2 = m - m / 2) := by
        show (m + 1) / 2 = m - m / 2
        omega
      have HO3 := Lib.hid (three_own HR.out nq i l l (z - m) (y + (m + 1) / 2) (y + (m + 1) / 2 + m / 2) (partL zs i) (by rw [E1.out]; exact P2.out m (by first | rfl | trivial) (by first | rfl | trivial)) (by rw [partL_length, ← HLN.out]))
      have h4 := three_below T1.out hbg nq i l l (.int .i64 (z - m)) (.int .i64 (y + (m + 1) / 2)) (.int .i64 (y + (m + 1) / 2 + m / 2))
      have H4 := Lib.hid h4
      clear h4
      refine (HOK.out _ _ HO3.out.ints).mono ?_
      rintro e w' ⟨rfl, rfl⟩
      go_wp2_with fail
      go_returns
      exact ⟨_, rfl, HO3.out, H4.out⟩
    · go_wp2_with fail
      have E1 : Hid ((m + 1) / 2 = m - m / 2) := by
        show (m + 1) / 2 = m - m / 2
        omega
      have HO3 := Lib.hid (three_own HR.out nq i l r (z - m) (y + (m + 1) / 2) (x + m / 2) (partL zs i) (by rw [E1.out]; exact P1.out m (by first | rfl | trivial) hlr) (by rw [partL_length, ← HLN.out]))
      have h4 := three_below T1.out hbg nq i l r (.int .i64 (z - m)) (.int .i64 (y + (m + 1) / 2)) (.int .i64 (x + m / 2))
      have H4 := Lib.hid h4
      clear h4
      refine (HOK.out _ _ HO3.out.ints).mono ?_
      rintro e w' ⟨rfl, rfl⟩
      go_wp2_with fail
      go_returns
      exact ⟨_, rfl, HO3.out, H4.out⟩
end Go.Proofs.Ytocpigibognfpaa
