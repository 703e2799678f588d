/-
  No statement is proved here: WeeksUntil, in the document's own text and in the program; condition: the program's errors lie where its text lays them.
-/
import Derived.Test.YtcdjjijagibhlaaDoorHoE
import Derived.Test.YtcdjjijagibhlaaDoorCnt
namespace Go.Proofs.YtcdjjijagibhlaaDoor
open Go.ChangeShapes Go.WideShapes Go.ChangeAt Go.RowKit

theorem rowTo_mono {f g : Nat → Bool} : ∀ k, (∀ i, i < k → f i = true → g i = true) → rowTo f k ≤ rowTo g k ∧ (rowTo f k = rowTo g k → ∀ i, i < k → f i = g i)
  | 0, _ => ⟨Int.le_refl _, fun _ i hi => by omega⟩
  | k + 1, h => by
    obtain ⟨h1, h2⟩ := rowTo_mono k fun i hi => h i (by omega)
    have h3 := h k (by omega)
    rw [rowTo, rowTo]
    cases hf : f k with
    | true =>
      rw [h3 hf]
      refine ⟨by omega, fun e i hi => ?_⟩
      by_cases hik : i = k
      · subst hik; rw [hf, h3 hf]
      · exact h2 (by omega) i (by omega)
    | false =>
      cases hg : g k with
      | true =>
        have a : b2i false = 0 := rfl
        have b : b2i true = 1 := rfl
        exact ⟨by omega, fun e => by omega⟩
      | false =>
        refine ⟨by omega, fun e i hi => ?_⟩
        by_cases hik : i = k
        · subst hik; rw [hf, hg]
        · exact h2 (by omega) i (by omega)
theorem cntY_mono {h g : Nat → Int} : ∀ k, (∀ y, y < k → ∀ i, i < 8 → bitH (h y) i = true → bitH (g y) i = true) → cntY h k ≤ cntY g k ∧ (cntY h k = cntY g k → ∀ y, y < k → ∀ i, i < 8 → bitH (h y) i = bitH (g y) i)
  | 0, _ => ⟨Int.le_refl _, fun _ i hi => by omega⟩
  | k + 1, H => by
    obtain ⟨h1, h2⟩ := cntY_mono k fun y hy => H y (by omega)
    obtain ⟨r1, r2⟩ := rowTo_mono 8 (H k (by omega))
    rw [cntY, cntY]
    refine ⟨by omega, fun e y hy => ?_⟩
    by_cases hyk : y = k
    · subst hyk; exact r2 (by omega)
    · exact h2 (by omega) y (by omega)
theorem bits_eq {a b : Int} (ha : 0 ≤ a ∧ a ≤ 255) (hb : 0 ≤ b ∧ b ≤ 255) (h : ∀ i, i < 8 → bitH a i = bitH b i) : a = b := by
  rw [← numTo_bits ha, ← numTo_bits hb, numTo_congr 8 h]
theorem eq8_of {g h : Nat → Int} (e : ∀ y, y < 8 → g y = h y) : eq8 g h = true := by
  unfold eq8 bytesOf
  rw [e 0 (by omega), e 1 (by omega), e 2 (by omega), e 3 (by omega), e 4 (by omega), e 5 (by omega), e 6 (by omega), e 7 (by omega)]
  simp
theorem bit_week (h : Nat → Int) (need : Int) {x y : Nat} (hx : x < 8) : bitH (weekF h need y) x = newH h need x y := by
  unfold bitH weekF
  rw [Int.toNat_natCast]
  exact testBit_numTo _ hx
theorem week_more {h : Nat → Int} (h8 : Bytes8 h) {need : Int} (e : eq8 (weekF h need) h = false) : cntF h + 1 ≤ cntF (weekF h need) := by
  obtain ⟨h1, h2⟩ := cntY_mono (h := h) (g := weekF h need) 8 fun y hy i hi hb => by
    rw [bit_week h need hi]
    unfold newH
    rw [hasH_in hi hy, hb, Bool.true_or]
  have h3 : cntF h ≠ cntF (weekF h need) := fun e2 => by
    have := eq8_of (g := weekF h need) (h := h) fun y hy => (bits_eq (h8 y hy) (weekF_bytes h need y hy) (h2 e2 y hy)).symm
    rw [this] at e
    cases e
  have h4 : cntF h ≤ cntF (weekF h need) := h1
  omega
theorem cntF_bd (h : Nat → Int) : 0 ≤ cntF h ∧ cntF h ≤ 64 := by
  have := cntY_bd h 8
  unfold cntF
  omega
/-- What WeeksUntil answers behind k weeks, f being enough. -/
def wuN (need holes : Int) (h : Nat → Int) : Nat → Nat → Int × Int
  | 0, _ => (0, 6)
  | f + 1, k => if holes ≤ cntF (wks need h k) then ((k : Int), 0) else if eq8 (wks need h (k + 1)) (wks need h k) = true then (0, 6) else wuN need holes h f (k + 1)
def wuF (h : Nat → Int) (need holes : Int) : Int × Int := if (inB need 1 4 && inB holes 0 64) = true then wuN need holes h 66 0 else (0, 2)
theorem wuF_yes {h : Nat → Int} {need holes : Int} (e : (inB need 1 4 && inB holes 0 64) = true) : wuF h need holes = wuN need holes h 66 0 := if_pos e
theorem wuF_no {h : Nat → Int} {need holes : Int} (e : (inB need 1 4 && inB holes 0 64) = false) : wuF h need holes = (0, 2) := if_neg (by simp [e])
/-- One step, with what it says of the count. -/
theorem wu_step {need holes : Int} {h : Nat → Int} (h8 : Bytes8 h) {k : Nat} (hk : (k : Int) ≤ cntF (wks need h k)) (R : Int × Int) (hR : wuN need holes h (66 - k) k = R) :
    (holes ≤ cntF (wks need h k) → R = ((k : Int), 0)) ∧ (¬ holes ≤ cntF (wks need h k) → eq8 (wks need h (k + 1)) (wks need h k) = true → R = (0, 6)) ∧
    (¬ holes ≤ cntF (wks need h k) → eq8 (wks need h (k + 1)) (wks need h k) = false → wuN need holes h (66 - (k + 1)) (k + 1) = R ∧ ((k + 1 : Nat) : Int) ≤ cntF (wks need h (k + 1))) ∧ k ≤ 64 := by
  have hb := cntF_bd (wks need h k)
  obtain ⟨f, hf⟩ : ∃ f, 66 - k = f + 1 := ⟨65 - k, by omega⟩
  rw [hf, wuN] at hR
  refine ⟨fun e => ?_, fun e e2 => ?_, fun e e2 => ⟨?_, ?_⟩, by omega⟩
  · rw [if_pos e] at hR; exact hR.symm
  · rw [if_neg e, if_pos e2] at hR; exact hR.symm
  · rw [if_neg e, if_neg (by rw [e2]; simp)] at hR
    rw [show 66 - (k + 1) = f by omega]
    exact hR
  · have := week_more (wks_bytes h8 need k) (need := need) e2
    have e3 : wks need h (k + 1) = weekF (wks need h k) need := rfl
    rw [e3]
    omega

set_option maxRecDepth 100000 in
set_option maxHeartbeats 16000000 in
theorem specUntil_any (h : Nat → Int) (need holes : Int) (w : World) (h8 : Bytes8 h) :
    Calls Tryd.prog 17 #[hv h, .int .i64 need, .int .i64 holes] w fun e w' => e = .returned (.tuple #[.int .i64 (wuF h need holes).1, .int .i64 (wuF h need holes).2]) ∧ Below w.heap.size w w' := by
  have N1 := Lib.hid fun wx => l06Need_any need wx
  have N2 := Lib.hid fun wx => in_any holes 0 64 wx
  have H8 := Lib.hid h8
  have A0 : Hid (HAt (w.alloc (.cells #[.int .u8 (h 0), .int .u8 (h 1), .int .u8 (h 2), .int .u8 (h 3), .int .u8 (h 4), .int .u8 (h 5), .int .u8 (h 6), .int .u8 (h 7)] 23)) w.heap.size (wks need h 0)) := Lib.hid (hat_made w 23 h)
  have F0 : Hid (∀ o : Nat, (w.alloc (.cells #[.int .u8 (h 0), .int .u8 (h 1), .int .u8 (h 2), .int .u8 (h 3), .int .u8 (h 4), .int .u8 (h 5), .int .u8 (h 6), .int .u8 (h 7)] 23)).frozen? ⟨w.heap.size, o, none⟩ = false) := Lib.hid fun o => by simp [go_sem]
  have B0 : Hid (Below w.heap.size w (w.alloc (.cells #[.int .u8 (h 0), .int .u8 (h 1), .int .u8 (h 2), .int .u8 (h 3), .int .u8 (h 4), .int .u8 (h 5), .int .u8 (h 6), .int .u8 (h 7)] 23))) := Lib.hid (by go_grown)
  clear h8
  cases hok : (inB need 1 4 && inB holes 0 64) with
  | false =>
    rw [wuF_no hok]
    cases h1 : inB need 1 4 with
    | false =>
      rw [h1] at N1
      clear hok h1 N2
      go_enter Tryd.func17, Tryd.ntmps17
      go_wp2_with fail
      refine (N1.out _).mono ?_
      rintro e w' ⟨rfl, rfl⟩
      go_wp2
      go_ret2
      exact ⟨rfl, B0.out⟩
    | true =>
      rw [h1] at hok N1
      have h2 : inB holes 0 64 = false := by simpa using hok
      rw [h2] at N2
      clear hok h1 h2
      go_enter Tryd.func17, Tryd.ntmps17
      go_wp2_with fail
      refine (N1.out _).mono ?_
      rintro e w' ⟨rfl, rfl⟩
      go_wp2_with fail
      refine (N2.out _).mono ?_
      rintro e w' ⟨rfl, rfl⟩
      go_wp2
      go_ret2
      exact ⟨rfl, B0.out⟩
  | true =>
    rw [wuF_yes hok]
    obtain ⟨R, hR⟩ : ∃ R, wuN need holes h 66 0 = R := ⟨_, rfl⟩
    rw [hR]
    have HR0 : Hid (wuN need holes h (66 - 0) 0 = R) := Lib.hid hR
    have hb : inB need 1 4 = true ∧ inB holes 0 64 = true := by simpa using hok
    obtain ⟨v1, v2⟩ := inB_of hb.2
    rw [hb.1] at N1
    rw [hb.2] at N2
    clear hok hb hR
    go_enter Tryd.func17, Tryd.ntmps17
    go_wp2_with fail
    refine (N1.out _).mono ?_
    rintro e w' ⟨rfl, rfl⟩
    go_wp2_with fail
    refine (N2.out _).mono ?_
    rintro e w' ⟨rfl, rfl⟩
    go_wp2_with fail
    go_loopw [8] (fun i wr => ∃ k : Nat, i = .int .i64 k ∧ Hid ((k : Int) ≤ cntF (wks need h k)) ∧ Hid (wuN need holes h (66 - k) k = R) ∧ Hid (HAt wr w.heap.size (wks need h k)) ∧ Hid (∀ o : Nat, wr.frozen? ⟨w.heap.size, o, none⟩ = false) ∧ Hid (Below w.heap.size w wr)) (fun i _ => 65 - (intOf i).toNat)
    case atStart => exact ⟨0, rfl, Lib.hid (cntF_bd h).1, HR0, A0, F0, B0⟩
    case round =>
      obtain ⟨k, rfl, hk, hRk, h0, hf0, hB⟩ := hrel
      have ST := Lib.hid (wu_step H8.out hk.out R hRk.out)
      have hk64 : k ≤ 64 := ST.out.2.2.2
      have b0 : w.heap.size < wr.heap.size := World.block_lt_of_cell? wr _ (h0.out 0 (by omega))
      have W8 := Lib.hid (wks_bytes H8.out need k)
      have HC := Lib.hid (l06Count_any w.heap.size (wks need h k) wr W8.out h0.out)
      have HW := Lib.hid (l06Week_any w.heap.size (wks need h k) need wr W8.out h0.out)
      obtain ⟨g, hg⟩ : ∃ g, g = weekF (wks need h k) need := ⟨_, rfl⟩
      have HK := Lib.hid ((show wks need h (k + 1) = weekF (wks need h k) need from rfl).trans hg.symm)
      have G8 : Hid (Bytes8 g) := Lib.hid (by rw [hg]; exact weekF_bytes _ _)
      have q4 := eqH_in G8.out W8.out
      rw [← hg] at HW
      have bc := cntF_bd (wks need h k)
      have SA := Lib.hid ST.out.1
      have SB := Lib.hid ST.out.2.1
      have SC := Lib.hid ST.out.2.2.1
      rw [HK.out] at SB SC
      have SQ := Lib.hid (show ∀ c : Nat → Int, c = wks need h k → eq8 g c = eq8 g (wks need h k) from fun c e => by rw [e])
      clear hg ST SQ
      generalize cntF (wks need h k) = n at *
      generalize eq8 g (wks need h k) = q at *
      by_cases hn : holes ≤ n
      · have HE := Lib.hid (SA.out hn)
        go_wp2_with fail
        refine HC.out.mono ?_
        rintro e w' ⟨rfl, rfl⟩
        go_wp2_with fail
        go_ret2
        exact ⟨by rw [HE.out]; rfl, hB.out⟩
      · have hn' : n < holes := by omega
        cases q with
        | true =>
          have HE := Lib.hid (SB.out hn (by first | rfl | trivial))
          go_wp2_with fail
          refine HC.out.mono ?_
          rintro e w' ⟨rfl, rfl⟩
          go_wp2_with fail
          refine HW.out.mono ?_
          rintro e w2 ⟨rfl, hC⟩
          have h2 := Lib.hid ((h0.out.below hC).below ((Below.refl _ _).alloc (Nat.le_refl _) (.cells #[.int .u8 (g 0), .int .u8 (g 1), .int .u8 (g 2), .int .u8 (g 3), .int .u8 (g 4), .int .u8 (g 5), .int .u8 (g 6), .int .u8 (g 7)] 23)))
          have f2 : ∀ o : Nat, (w2.alloc (.cells #[.int .u8 (g 0), .int .u8 (g 1), .int .u8 (g 2), .int .u8 (g 3), .int .u8 (g 4), .int .u8 (g 5), .int .u8 (g 6), .int .u8 (g 7)] 23)).frozen? ⟨w.heap.size, o, none⟩ = false := fun o => (((Below.refl w2.heap.size w2).alloc (Nat.le_refl _) _).frozen (p := ⟨w.heap.size, o, none⟩) (Nat.lt_of_lt_of_le b0 hC.size)).trans ((hC.frozen (p := ⟨w.heap.size, o, none⟩) b0).trans (hf0.out o))
          have EE := Lib.hid (hB.out.trans (hC.mono hB.out.size))
          have F2 := Lib.hid f2
          have E := Lib.hid ((hB.out.trans (hC.mono hB.out.size)).alloc (by have h5 := hB.out.size; have h6 := hC.size; omega) (.cells #[.int .u8 (g 0), .int .u8 (g 1), .int .u8 (g 2), .int .u8 (g 3), .int .u8 (g 4), .int .u8 (g 5), .int .u8 (g 6), .int .u8 (g 7)] 23))
          clear hC
          have c0 := h2.out 0 (by omega)
          have c1 := h2.out 1 (by omega)
          have c2 := h2.out 2 (by omega)
          have c3 := h2.out 3 (by omega)
          have c4 := h2.out 4 (by omega)
          have c5 := h2.out 5 (by omega)
          have c6 := h2.out 6 (by omega)
          have c7 := h2.out 7 (by omega)
          go_wp2_with fail
          go_ret2
          exact ⟨by rw [HE.out]; rfl, E.out⟩
        | false =>
          have HE := Lib.hid (SC.out hn (by first | rfl | trivial))
          go_wp2_with fail
          refine HC.out.mono ?_
          rintro e w' ⟨rfl, rfl⟩
          go_wp2_with fail
          refine HW.out.mono ?_
          rintro e w2 ⟨rfl, hC⟩
          have h2 := Lib.hid ((h0.out.below hC).below ((Below.refl _ _).alloc (Nat.le_refl _) (.cells #[.int .u8 (g 0), .int .u8 (g 1), .int .u8 (g 2), .int .u8 (g 3), .int .u8 (g 4), .int .u8 (g 5), .int .u8 (g 6), .int .u8 (g 7)] 23)))
          have f2 : ∀ o : Nat, (w2.alloc (.cells #[.int .u8 (g 0), .int .u8 (g 1), .int .u8 (g 2), .int .u8 (g 3), .int .u8 (g 4), .int .u8 (g 5), .int .u8 (g 6), .int .u8 (g 7)] 23)).frozen? ⟨w.heap.size, o, none⟩ = false := fun o => (((Below.refl w2.heap.size w2).alloc (Nat.le_refl _) _).frozen (p := ⟨w.heap.size, o, none⟩) (Nat.lt_of_lt_of_le b0 hC.size)).trans ((hC.frozen (p := ⟨w.heap.size, o, none⟩) b0).trans (hf0.out o))
          have EE := Lib.hid (hB.out.trans (hC.mono hB.out.size))
          have F2 := Lib.hid f2
          have E := Lib.hid ((hB.out.trans (hC.mono hB.out.size)).alloc (by have h5 := hB.out.size; have h6 := hC.size; omega) (.cells #[.int .u8 (g 0), .int .u8 (g 1), .int .u8 (g 2), .int .u8 (g 3), .int .u8 (g 4), .int .u8 (g 5), .int .u8 (g 6), .int .u8 (g 7)] 23))
          clear hC
          have c0 := h2.out 0 (by omega)
          have c1 := h2.out 1 (by omega)
          have c2 := h2.out 2 (by omega)
          have c3 := h2.out 3 (by omega)
          have c4 := h2.out 4 (by omega)
          have c5 := h2.out 5 (by omega)
          have c6 := h2.out 6 (by omega)
          have c7 := h2.out 7 (by omega)
          have P1 := Lib.hid (hat_put h2.out g)
          have P3 : Hid (∀ o : Nat, ((((((((((w2.alloc (.cells #[.int .u8 (g 0), .int .u8 (g 1), .int .u8 (g 2), .int .u8 (g 3), .int .u8 (g 4), .int .u8 (g 5), .int .u8 (g 6), .int .u8 (g 7)] 23)).setCell ⟨w.heap.size, 0, none⟩ (.int .u8 (g 0))).setCell ⟨w.heap.size, 1, none⟩ (.int .u8 (g 1))).setCell ⟨w.heap.size, 2, none⟩ (.int .u8 (g 2))).setCell ⟨w.heap.size, 3, none⟩ (.int .u8 (g 3))).setCell ⟨w.heap.size, 4, none⟩ (.int .u8 (g 4))).setCell ⟨w.heap.size, 5, none⟩ (.int .u8 (g 5))).setCell ⟨w.heap.size, 6, none⟩ (.int .u8 (g 6))).setCell ⟨w.heap.size, 7, none⟩ (.int .u8 (g 7)))).frozen? ⟨w.heap.size, o, none⟩ = false) := Lib.hid fun o => by simpa using F2.out o
          have E8 : Hid (Below w.heap.size w (((((((((w2.alloc (.cells #[.int .u8 (g 0), .int .u8 (g 1), .int .u8 (g 2), .int .u8 (g 3), .int .u8 (g 4), .int .u8 (g 5), .int .u8 (g 6), .int .u8 (g 7)] 23)).setCell ⟨w.heap.size, 0, none⟩ (.int .u8 (g 0))).setCell ⟨w.heap.size, 1, none⟩ (.int .u8 (g 1))).setCell ⟨w.heap.size, 2, none⟩ (.int .u8 (g 2))).setCell ⟨w.heap.size, 3, none⟩ (.int .u8 (g 3))).setCell ⟨w.heap.size, 4, none⟩ (.int .u8 (g 4))).setCell ⟨w.heap.size, 5, none⟩ (.int .u8 (g 5))).setCell ⟨w.heap.size, 6, none⟩ (.int .u8 (g 6))).setCell ⟨w.heap.size, 7, none⟩ (.int .u8 (g 7)))) := Lib.hid (by go_grown <;> first | exact EE.out | exact EE.out.size)
          go_wp2_with fail
          go_roundw
          case rel => exact ⟨k + 1, by go_num, by rw [HK.out]; exact Lib.hid HE.out.2, Lib.hid HE.out.1, by rw [HK.out]; exact P1, P3, E8⟩
          case measure => simp [intOf]; omega

set_option maxRecDepth 100000 in
set_option maxHeartbeats 16000000 in
theorem implUntil_any (p : Nat → Addr) (h : Nat → Int) (need holes : Int) (w : World) (hs : Sent w p) (h8 : Bytes8 h) :
    Calls Tryd.prog 18 #[hv h, .int .i64 need, .int .i64 holes] w fun e w' => e = .returned (.tuple #[.int .i64 (wuF h need holes).1, .int .i64 (wuF h need holes).2]) ∧ Below w.heap.size w w' := by
  have HS := Lib.hid hs
  have N1 := Lib.hid fun wx => isNeed_any need wx
  have C := Lib.hid fun b cap wx hx h0 h1 => check2_any p b cap need 1 4 holes 0 64 wx hx h0 h1
  have q1 := neqNil_err
  have q2 := neqNil_nil
  have H8 := Lib.hid h8
  have A0 : Hid (HAt (w.alloc (.cells #[.int .u8 (h 0), .int .u8 (h 1), .int .u8 (h 2), .int .u8 (h 3), .int .u8 (h 4), .int .u8 (h 5), .int .u8 (h 6), .int .u8 (h 7)] 23)) w.heap.size (wks need h 0)) := Lib.hid (hat_made w 23 h)
  have F0 : Hid (∀ o : Nat, (w.alloc (.cells #[.int .u8 (h 0), .int .u8 (h 1), .int .u8 (h 2), .int .u8 (h 3), .int .u8 (h 4), .int .u8 (h 5), .int .u8 (h 6), .int .u8 (h 7)] 23)).frozen? ⟨w.heap.size, o, none⟩ = false) := Lib.hid fun o => by simp [go_sem]
  have B0 : Hid (Below w.heap.size w (w.alloc (.cells #[.int .u8 (h 0), .int .u8 (h 1), .int .u8 (h 2), .int .u8 (h 3), .int .u8 (h 4), .int .u8 (h 5), .int .u8 (h 6), .int .u8 (h 7)] 23))) := Lib.hid (by go_grown)
  clear h8 hs
  cases hok : (inB need 1 4 && inB holes 0 64) with
  | false =>
    rw [wuF_no hok]
    rw [hok, errIn_no] at C
    have HC := Lib.hid fun wx hx => codeOf_err (p := p) 1 (by omega) wx hx
    clear hok
    go_enter Tryd.func18, Tryd.ntmps18
    go_wp2_with fail
    refine (N1.out _).mono ?_
    rintro e w1 ⟨rfl, hB⟩
    have X1 := Lib.hid ((A0.out.below hB).below ((Below.refl _ _).alloc (Nat.le_refl _) (.cells #[.iface 46 (.agg #[.int .i64 need, .int .i64 1, .int .i64 4]), .iface 46 (.agg #[.int .i64 holes, .int .i64 0, .int .i64 64])] 66)))
    have b1 : w.heap.size < w1.heap.size := Nat.lt_of_lt_of_le (by simp) hB.size
    have Y1 : Hid (∀ o : Nat, w1.frozen? ⟨w.heap.size, o, none⟩ = false) := Lib.hid fun o => (hB.frozen (p := ⟨w.heap.size, o, none⟩) (by simp)).trans (F0.out o)
    have E1 := Lib.hid ((B0.out.trans (hB.mono B0.out.size)).alloc (by omega) (.cells #[.iface 46 (.agg #[.int .i64 need, .int .i64 1, .int .i64 4]), .iface 46 (.agg #[.int .i64 holes, .int .i64 0, .int .i64 64])] 66))
    clear hB
    go_wp2_with fail
    refine (C.out _ _ _ (HS.out.below E1.out) (by simp [go_sem]) (by simp [go_sem])).mono ?_
    rintro e w2 ⟨rfl, hB⟩
    have X2 := Lib.hid (X1.out.below hB)
    have Y2 : Hid (∀ o : Nat, w2.frozen? ⟨w.heap.size, o, none⟩ = false) := Lib.hid fun o => (hB.frozen (p := ⟨w.heap.size, o, none⟩) (by simp only [World.size_alloc]; omega)).trans ((((Below.refl w1.heap.size w1).alloc (Nat.le_refl _) _).frozen (p := ⟨w.heap.size, o, none⟩) b1).trans (Y1.out o))
    have E2 := Lib.hid (E1.out.trans (hB.mono E1.out.size))
    clear hB b1
    go_wp2_with fail
    refine (HC.out _ (HS.out.below E2.out)).mono ?_
    rintro e w' ⟨rfl, rfl⟩
    go_wp2
    go_ret2
    exact ⟨rfl, E2.out⟩
  | true =>
    rw [wuF_yes hok]
    obtain ⟨R, hR⟩ : ∃ R, wuN need holes h 66 0 = R := ⟨_, rfl⟩
    rw [hR]
    have HR0 : Hid (wuN need holes h (66 - 0) 0 = R) := Lib.hid hR
    have hb : inB need 1 4 = true ∧ inB holes 0 64 = true := by simpa using hok
    obtain ⟨v1, v2⟩ := inB_of hb.2
    rw [hok, errIn_yes] at C
    clear hok hb hR
    go_enter Tryd.func18, Tryd.ntmps18
    go_wp2_with fail
    refine (N1.out _).mono ?_
    rintro e w1 ⟨rfl, hB⟩
    have X1 := Lib.hid ((A0.out.below hB).below ((Below.refl _ _).alloc (Nat.le_refl _) (.cells #[.iface 46 (.agg #[.int .i64 need, .int .i64 1, .int .i64 4]), .iface 46 (.agg #[.int .i64 holes, .int .i64 0, .int .i64 64])] 66)))
    have b1 : w.heap.size < w1.heap.size := Nat.lt_of_lt_of_le (by simp) hB.size
    have Y1 : Hid (∀ o : Nat, w1.frozen? ⟨w.heap.size, o, none⟩ = false) := Lib.hid fun o => (hB.frozen (p := ⟨w.heap.size, o, none⟩) (by simp)).trans (F0.out o)
    have E1 := Lib.hid ((B0.out.trans (hB.mono B0.out.size)).alloc (by omega) (.cells #[.iface 46 (.agg #[.int .i64 need, .int .i64 1, .int .i64 4]), .iface 46 (.agg #[.int .i64 holes, .int .i64 0, .int .i64 64])] 66))
    clear hB
    go_wp2_with fail
    refine (C.out _ _ _ (HS.out.below E1.out) (by simp [go_sem]) (by simp [go_sem])).mono ?_
    rintro e w2 ⟨rfl, hB⟩
    have X2 := Lib.hid (X1.out.below hB)
    have Y2 : Hid (∀ o : Nat, w2.frozen? ⟨w.heap.size, o, none⟩ = false) := Lib.hid fun o => (hB.frozen (p := ⟨w.heap.size, o, none⟩) (by simp only [World.size_alloc]; omega)).trans ((((Below.refl w1.heap.size w1).alloc (Nat.le_refl _) _).frozen (p := ⟨w.heap.size, o, none⟩) b1).trans (Y1.out o))
    have E2 := Lib.hid (E1.out.trans (hB.mono E1.out.size))
    clear hB b1
    go_wp2_with fail
    go_loopw [9] (fun i wr => ∃ k : Nat, i = .int .i64 k ∧ Hid ((k : Int) ≤ cntF (wks need h k)) ∧ Hid (wuN need holes h (66 - k) k = R) ∧ Hid (HAt wr w.heap.size (wks need h k)) ∧ Hid (∀ o : Nat, wr.frozen? ⟨w.heap.size, o, none⟩ = false) ∧ Hid (Below w.heap.size w wr)) (fun i _ => 65 - (intOf i).toNat)
    case atStart => exact ⟨0, rfl, Lib.hid (cntF_bd h).1, HR0, X2, Y2, E2⟩
    case round =>
      obtain ⟨k, rfl, hk, hRk, h0, hf0, hB⟩ := hrel
      have ST := Lib.hid (wu_step H8.out hk.out R hRk.out)
      have hk64 : k ≤ 64 := ST.out.2.2.2
      have b0 : w.heap.size < wr.heap.size := World.block_lt_of_cell? wr _ (h0.out 0 (by omega))
      have W8 := Lib.hid (wks_bytes H8.out need k)
      have HC := Lib.hid fun wx => implCount_any (wks need h k) wx W8.out
      have HW := Lib.hid fun wx => weekLater_any (wks need h k) need wx W8.out
      obtain ⟨g, hg⟩ : ∃ g, g = weekF (wks need h k) need := ⟨_, rfl⟩
      have HK := Lib.hid ((show wks need h (k + 1) = weekF (wks need h k) need from rfl).trans hg.symm)
      have G8 : Hid (Bytes8 g) := Lib.hid (by rw [hg]; exact weekF_bytes _ _)
      have q4 := eqH_in G8.out W8.out
      rw [← hg] at HW
      have bc := cntF_bd (wks need h k)
      have SA := Lib.hid ST.out.1
      have SB := Lib.hid ST.out.2.1
      have SC := Lib.hid ST.out.2.2.1
      rw [HK.out] at SB SC
      have SQ := Lib.hid (show ∀ c : Nat → Int, c = wks need h k → eq8 g c = eq8 g (wks need h k) from fun c e => by rw [e])
      clear hg ST SQ
      generalize cntF (wks need h k) = n at *
      generalize eq8 g (wks need h k) = q at *
      by_cases hn : holes ≤ n
      · have HE := Lib.hid (SA.out hn)
        have d0 := h0.out 0 (by omega)
        have d1 := h0.out 1 (by omega)
        have d2 := h0.out 2 (by omega)
        have d3 := h0.out 3 (by omega)
        have d4 := h0.out 4 (by omega)
        have d5 := h0.out 5 (by omega)
        have d6 := h0.out 6 (by omega)
        have d7 := h0.out 7 (by omega)
        go_wp2_with fail
        refine (HC.out _).mono ?_
        rintro e w1 ⟨rfl, hC1⟩
        have h1 := Lib.hid (h0.out.below hC1)
        have hf1 : Hid (∀ o : Nat, w1.frozen? ⟨w.heap.size, o, none⟩ = false) := Lib.hid fun o => (hC1.frozen (p := ⟨w.heap.size, o, none⟩) b0).trans (hf0.out o)
        have B1 := Lib.hid (hB.out.trans (hC1.mono hB.out.size))
        have b1 : w.heap.size < w1.heap.size := Nat.lt_of_lt_of_le b0 hC1.size
        clear hC1 d0 d1 d2 d3 d4 d5 d6 d7
        go_wp2_with fail
        go_ret2
        exact ⟨by rw [HE.out]; rfl, B1.out⟩
      · have hn' : n < holes := by omega
        cases q with
        | true =>
          have HE := Lib.hid (SB.out hn (by first | rfl | trivial))
          have d0 := h0.out 0 (by omega)
          have d1 := h0.out 1 (by omega)
          have d2 := h0.out 2 (by omega)
          have d3 := h0.out 3 (by omega)
          have d4 := h0.out 4 (by omega)
          have d5 := h0.out 5 (by omega)
          have d6 := h0.out 6 (by omega)
          have d7 := h0.out 7 (by omega)
          go_wp2_with fail
          refine (HC.out _).mono ?_
          rintro e w1 ⟨rfl, hC1⟩
          have h1 := Lib.hid (h0.out.below hC1)
          have hf1 : Hid (∀ o : Nat, w1.frozen? ⟨w.heap.size, o, none⟩ = false) := Lib.hid fun o => (hC1.frozen (p := ⟨w.heap.size, o, none⟩) b0).trans (hf0.out o)
          have B1 := Lib.hid (hB.out.trans (hC1.mono hB.out.size))
          have b1 : w.heap.size < w1.heap.size := Nat.lt_of_lt_of_le b0 hC1.size
          clear hC1 d0 d1 d2 d3 d4 d5 d6 d7
          have d0 := h1.out 0 (by omega)
          have d1 := h1.out 1 (by omega)
          have d2 := h1.out 2 (by omega)
          have d3 := h1.out 3 (by omega)
          have d4 := h1.out 4 (by omega)
          have d5 := h1.out 5 (by omega)
          have d6 := h1.out 6 (by omega)
          have d7 := h1.out 7 (by omega)
          go_wp2_with fail
          refine (HW.out _).mono ?_
          rintro e w2 ⟨rfl, hC⟩
          have h2 := Lib.hid ((h1.out.below hC).below ((Below.refl _ _).alloc (Nat.le_refl _) (.cells #[.int .u8 (g 0), .int .u8 (g 1), .int .u8 (g 2), .int .u8 (g 3), .int .u8 (g 4), .int .u8 (g 5), .int .u8 (g 6), .int .u8 (g 7)] 23)))
          have f2 : ∀ o : Nat, (w2.alloc (.cells #[.int .u8 (g 0), .int .u8 (g 1), .int .u8 (g 2), .int .u8 (g 3), .int .u8 (g 4), .int .u8 (g 5), .int .u8 (g 6), .int .u8 (g 7)] 23)).frozen? ⟨w.heap.size, o, none⟩ = false := fun o => (((Below.refl w2.heap.size w2).alloc (Nat.le_refl _) _).frozen (p := ⟨w.heap.size, o, none⟩) (Nat.lt_of_lt_of_le b1 hC.size)).trans ((hC.frozen (p := ⟨w.heap.size, o, none⟩) b1).trans (hf1.out o))
          have EE := Lib.hid (B1.out.trans (hC.mono B1.out.size))
          have F2 := Lib.hid f2
          have E := Lib.hid ((B1.out.trans (hC.mono B1.out.size)).alloc (by have h5 := B1.out.size; have h6 := hC.size; omega) (.cells #[.int .u8 (g 0), .int .u8 (g 1), .int .u8 (g 2), .int .u8 (g 3), .int .u8 (g 4), .int .u8 (g 5), .int .u8 (g 6), .int .u8 (g 7)] 23))
          clear hC d0 d1 d2 d3 d4 d5 d6 d7
          have c0 := h2.out 0 (by omega)
          have c1 := h2.out 1 (by omega)
          have c2 := h2.out 2 (by omega)
          have c3 := h2.out 3 (by omega)
          have c4 := h2.out 4 (by omega)
          have c5 := h2.out 5 (by omega)
          have c6 := h2.out 6 (by omega)
          have c7 := h2.out 7 (by omega)
          go_wp2_with fail
          go_ret2
          exact ⟨by rw [HE.out]; rfl, E.out⟩
        | false =>
          have HE := Lib.hid (SC.out hn (by first | rfl | trivial))
          have d0 := h0.out 0 (by omega)
          have d1 := h0.out 1 (by omega)
          have d2 := h0.out 2 (by omega)
          have d3 := h0.out 3 (by omega)
          have d4 := h0.out 4 (by omega)
          have d5 := h0.out 5 (by omega)
          have d6 := h0.out 6 (by omega)
          have d7 := h0.out 7 (by omega)
          go_wp2_with fail
          refine (HC.out _).mono ?_
          rintro e w1 ⟨rfl, hC1⟩
          have h1 := Lib.hid (h0.out.below hC1)
          have hf1 : Hid (∀ o : Nat, w1.frozen? ⟨w.heap.size, o, none⟩ = false) := Lib.hid fun o => (hC1.frozen (p := ⟨w.heap.size, o, none⟩) b0).trans (hf0.out o)
          have B1 := Lib.hid (hB.out.trans (hC1.mono hB.out.size))
          have b1 : w.heap.size < w1.heap.size := Nat.lt_of_lt_of_le b0 hC1.size
          clear hC1 d0 d1 d2 d3 d4 d5 d6 d7
          have d0 := h1.out 0 (by omega)
          have d1 := h1.out 1 (by omega)
          have d2 := h1.out 2 (by omega)
          have d3 := h1.out 3 (by omega)
          have d4 := h1.out 4 (by omega)
          have d5 := h1.out 5 (by omega)
          have d6 := h1.out 6 (by omega)
          have d7 := h1.out 7 (by omega)
          go_wp2_with fail
          refine (HW.out _).mono ?_
          rintro e w2 ⟨rfl, hC⟩
          have h2 := Lib.hid ((h1.out.below hC).below ((Below.refl _ _).alloc (Nat.le_refl _) (.cells #[.int .u8 (g 0), .int .u8 (g 1), .int .u8 (g 2), .int .u8 (g 3), .int .u8 (g 4), .int .u8 (g 5), .int .u8 (g 6), .int .u8 (g 7)] 23)))
          have f2 : ∀ o : Nat, (w2.alloc (.cells #[.int .u8 (g 0), .int .u8 (g 1), .int .u8 (g 2), .int .u8 (g 3), .int .u8 (g 4), .int .u8 (g 5), .int .u8 (g 6), .int .u8 (g 7)] 23)).frozen? ⟨w.heap.size, o, none⟩ = false := fun o => (((Below.refl w2.heap.size w2).alloc (Nat.le_refl _) _).frozen (p := ⟨w.heap.size, o, none⟩) (Nat.lt_of_lt_of_le b1 hC.size)).trans ((hC.frozen (p := ⟨w.heap.size, o, none⟩) b1).trans (hf1.out o))
          have EE := Lib.hid (B1.out.trans (hC.mono B1.out.size))
          have F2 := Lib.hid f2
          have E := Lib.hid ((B1.out.trans (hC.mono B1.out.size)).alloc (by have h5 := B1.out.size; have h6 := hC.size; omega) (.cells #[.int .u8 (g 0), .int .u8 (g 1), .int .u8 (g 2), .int .u8 (g 3), .int .u8 (g 4), .int .u8 (g 5), .int .u8 (g 6), .int .u8 (g 7)] 23))
          clear hC d0 d1 d2 d3 d4 d5 d6 d7
          have c0 := h2.out 0 (by omega)
          have c1 := h2.out 1 (by omega)
          have c2 := h2.out 2 (by omega)
          have c3 := h2.out 3 (by omega)
          have c4 := h2.out 4 (by omega)
          have c5 := h2.out 5 (by omega)
          have c6 := h2.out 6 (by omega)
          have c7 := h2.out 7 (by omega)
          have P1 := Lib.hid (hat_put h2.out g)
          have P3 : Hid (∀ o : Nat, ((((((((((w2.alloc (.cells #[.int .u8 (g 0), .int .u8 (g 1), .int .u8 (g 2), .int .u8 (g 3), .int .u8 (g 4), .int .u8 (g 5), .int .u8 (g 6), .int .u8 (g 7)] 23)).setCell ⟨w.heap.size, 0, none⟩ (.int .u8 (g 0))).setCell ⟨w.heap.size, 1, none⟩ (.int .u8 (g 1))).setCell ⟨w.heap.size, 2, none⟩ (.int .u8 (g 2))).setCell ⟨w.heap.size, 3, none⟩ (.int .u8 (g 3))).setCell ⟨w.heap.size, 4, none⟩ (.int .u8 (g 4))).setCell ⟨w.heap.size, 5, none⟩ (.int .u8 (g 5))).setCell ⟨w.heap.size, 6, none⟩ (.int .u8 (g 6))).setCell ⟨w.heap.size, 7, none⟩ (.int .u8 (g 7)))).frozen? ⟨w.heap.size, o, none⟩ = false) := Lib.hid fun o => by simpa using F2.out o
          have E8 : Hid (Below w.heap.size w (((((((((w2.alloc (.cells #[.int .u8 (g 0), .int .u8 (g 1), .int .u8 (g 2), .int .u8 (g 3), .int .u8 (g 4), .int .u8 (g 5), .int .u8 (g 6), .int .u8 (g 7)] 23)).setCell ⟨w.heap.size, 0, none⟩ (.int .u8 (g 0))).setCell ⟨w.heap.size, 1, none⟩ (.int .u8 (g 1))).setCell ⟨w.heap.size, 2, none⟩ (.int .u8 (g 2))).setCell ⟨w.heap.size, 3, none⟩ (.int .u8 (g 3))).setCell ⟨w.heap.size, 4, none⟩ (.int .u8 (g 4))).setCell ⟨w.heap.size, 5, none⟩ (.int .u8 (g 5))).setCell ⟨w.heap.size, 6, none⟩ (.int .u8 (g 6))).setCell ⟨w.heap.size, 7, none⟩ (.int .u8 (g 7)))) := Lib.hid (by go_grown <;> first | exact EE.out | exact EE.out.size)
          go_wp2_with fail
          go_roundw
          case rel => exact ⟨k + 1, by go_num, by rw [HK.out]; exact Lib.hid HE.out.2, Lib.hid HE.out.1, by rw [HK.out]; exact P1, P3, E8⟩
          case measure => simp [intOf]; omega
end Go.Proofs.YtcdjjijagibhlaaDoor
