/-
  No statement is proved here: the thinnest yarn, as the program tells it; condition: the errors lie where the text lays them; at most 1048576 yarns.
-/
import Derived.Test.YtpkjogenkdckpaaDoorWeak
import Derived.Test.YtpkjogenkdckpaaDoorPlies
import Derived.Test.YtpkjogenkdckpaaDoorSummed
import Derived.Deep.RegionWith
import Derived.Deep.RegionHeld3
import Derived.Deep.DeepCutAuto
namespace Go.Proofs.YtpkjogenkdckpaaDoor
open Go.ChangeShapes Go.WideShapes Go.ChangeAt Go.RowKit

theorem measures_ex (a b c : Int) (w : World) (h : Is16 (a, b, c)) :
    Calls Tryd.prog 51 #[.agg #[.int .i16 a, .int .i16 b, .int .i16 c]] w fun e w' => e = .returned (.agg #[.int .i64 a, .int .i64 b, .int .i64 c]) ∧ w' = (w.alloc (.cells #[.int .i16 a, .int .i16 b, .int .i16 c] 25)).alloc (.cells #[.int .i64 a, .int .i64 b, .int .i64 c] 76) := by
  obtain ⟨⟨h1, h2⟩, ⟨h3, h4⟩, h5, h6⟩ := h
  simp only at h1 h2 h3 h4 h5 h6
  go_enter Tryd.func51, Tryd.ntmps51
  go_wp2
  go_returns
  exact ⟨rfl, rfl⟩

/-- Three int64s lie at the head of block b. -/
def MAt (w : World) (b : Nat) (x y z : Int) : Prop := w.cell? ⟨b, 0, none⟩ = some (.int .i64 x) ∧ w.cell? ⟨b, 1, none⟩ = some (.int .i64 y) ∧ w.cell? ⟨b, 2, none⟩ = some (.int .i64 z)

set_option maxRecDepth 100000 in
set_option maxHeartbeats 8000000 in
theorem implWeak_any (p : Nat → Addr) (v : Value) (ys : List Yn) (w : World) (hs : Sent w p) (h : Yarns w v ys) (hn : ys.length ≤ 1048576) :
    Calls Tryd.prog 28 #[v] w fun e w' => e = .returned (.tuple #[.int .i64 (weakF ys).1, .agg #[.int .i64 (weakF ys).2.1, .int .i64 (weakF ys).2.2.1], .int .i64 (weakF ys).2.2.2]) ∧ Below w.heap.size w w' := by
  have q1 := neqNil_err
  have q2 := neqNil_nil
  have HS := Lib.hid hs
  have HY := Lib.hid h
  obtain ⟨a0, c0, rfl⟩ := h.len
  have H2 := Lib.hid (check2f_any p (w.heap.size + 1) 2 (.slice a0 ys.length c0) ys ((w.alloc (.cells #[.int .i64 0, .int .i64 0] 47)).alloc (.cells #[.iface 82 (.slice a0 ys.length c0), .iface 85 (.int .i64 ys.length)] 101))
    (hs.below (((Below.refl _ _).alloc (Nat.le_refl _) _).alloc (by simp) _)) (h.below (((Below.refl _ _).alloc (Nat.le_refl _) _).alloc (by simp) _)) hn (by simp [go_sem]) (by simp [go_sem]))
  by_cases hc : askedF ys true = 0
  · rw [hc, errOf_zero] at H2
    by_cases h0 : ys.length = 0
    · rw [weakF_none hc h0]
      clear hc hs h
      have hx : ys = [] := List.length_eq_zero_iff.1 h0
      subst hx
      go_enter Tryd.func28, Tryd.ntmps28
      go_wp2_with fail
      refine H2.out.mono ?_
      rintro e w1 ⟨rfl, hB⟩
      have B1 := Lib.hid ((((Below.refl w.heap.size w).alloc (Nat.le_refl _) _).alloc (by simp only [World.size_alloc]; omega) _).trans (hB.mono (by simp only [World.size_alloc]; omega)))
      have R1 := Lib.hid (show FBox w1 w.heap.size 0 0 from FBox.below (w := (w.alloc _).alloc _) ⟨⟨by simp [go_sem], by simp [go_sem]⟩, by simp [go_sem], by simp [go_sem]⟩ hB (by simp only [World.size_alloc]; omega))
      clear hB
      have ht := fbox_set R1.out 0 0
      obtain ⟨⟨f0, f1⟩, g0, g1⟩ := R1.out
      go_wp2_with fail
      refine bodyPost_ret (v := .tuple #[.int .i64 0, .agg #[.int .i64 0, .int .i64 0], .int .i64 6]) (by simp [results, go_sem, ht.1, ht.2, Tryd.f28]) rfl ?_
      exact ⟨rfl, (B1.out.setCell (Nat.le_refl _) _).setCell (Nat.le_refl _) _⟩
    · rw [weakF_yes hc h0]
      have hall := (askedF_zero hc).1
      have hlen := (askedF_zero hc).2.2
      obtain ⟨b, off, cap, hv, hb, hcells⟩ := h.pos (by omega)
      obtain ⟨rfl, rfl⟩ : a0 = some ⟨b, off, none⟩ ∧ c0 = cap := by simpa using hv
      have H16 := Lib.hid h.1
      have HBD := Lib.hid (y_bd hall)
      have HOK := Lib.hid (fun k hk => allY_get hall k hk)
      have HST := Lib.hid (weak_step ys)
      have HLT := Lib.hid (weak_lt ys)
      obtain ⟨n, hln⟩ : ∃ n, n = ys.length := ⟨_, rfl⟩
      rw [← hln] at HBD HOK hcells hn h0 hlen H2 HY ⊢
      obtain ⟨M, hM⟩ : ∃ M, M = weak ys n := ⟨_, rfl⟩
      have hMn : M < n := by rw [hM]; exact (HLT.out n).2 (by omega)
      rw [← hM]
      have HRR := Lib.hid fun wx => count_any (yat ys M).1 (yat ys M).2.1 (yat ys M).2.2 wx (HOK.out M hMn)
      generalize lowN (yat ys M).1 (yat ys M).2.2 = p at *
      generalize lowD (yat ys M).1 (yat ys M).2.2 = q' at *
      have HM := Lib.hid hM
      have HC := Lib.hid hcells
      clear hcells hln h hc hall hM hv hs
      have hn2 : (n : Int) ≤ 10 := by omega
      have hn0 : ((n : Int) == 0) = false := by rw [beq_eq_false_iff_ne]; omega
      go_enter Tryd.func28, Tryd.ntmps28
      go_wp2_with fail
      refine H2.out.mono ?_
      rintro e w1 ⟨rfl, hB⟩
      have B1 := Lib.hid ((((Below.refl w.heap.size w).alloc (Nat.le_refl _) _).alloc (by simp only [World.size_alloc]; omega) _).trans (hB.mono (by simp only [World.size_alloc]; omega)))
      have R1 := Lib.hid (show FBox w1 w.heap.size 0 0 from FBox.below (w := (w.alloc _).alloc _) ⟨⟨by simp [go_sem], by simp [go_sem]⟩, by simp [go_sem], by simp [go_sem]⟩ hB (by simp only [World.size_alloc]; omega))
      have Z1 := Lib.hid (show w.heap.size < w1.heap.size by have := hB.size; simp only [World.size_alloc] at this; omega)
      clear hB
      have HC1 := Lib.hid (show ∀ (wr : World) (j : Nat), j < n → Below w1.heap.size w1 wr → wr.cell? ⟨b, off + j * 3, none⟩ = some (.int .i16 (yat ys j).1) ∧ wr.cell? ⟨b, off + j * 3 + 1, none⟩ = some (.int .i16 (yat ys j).2.1) ∧ wr.cell? ⟨b, off + j * 3 + 2, none⟩ = some (.int .i16 (yat ys j).2.2) from fun wr j hj hB => by
        obtain ⟨p1, p2, p3⟩ := HC.out j hj
        have hb1 : b < w1.heap.size := by have := Z1.out; omega
        have k := fun o => (hB.cell (p := ⟨b, o, none⟩) hb1).trans (B1.out.cell (p := ⟨b, o, none⟩) hb)
        exact ⟨(k _).trans p1, (k _).trans p2, (k _).trans p3⟩)
      have hb1 : b < w1.heap.size := by have := Z1.out; omega
      go_wp2_with fail
      go_loopw [6, 29] (fun s i wr => ∃ k m : Nat, k ≤ n ∧ m < n ∧ i = .int .i64 k ∧ s = .int .i64 m ∧ Hid (m = weak ys k) ∧ Hid (Below w1.heap.size w1 wr)) (fun _ i _ => n - (intOf i).toNat)
      case atStart => exact ⟨0, 0, Nat.zero_le _, by omega, rfl, rfl, Lib.hid rfl, Lib.hid (Below.refl _ _)⟩
      case round =>
        obtain ⟨k, m, hk, hmn, rfl, rfl, hm, hD⟩ := hrel
        by_cases hlt : k < n
        · obtain ⟨p1, p2, p3⟩ := HC1.out wr k hlt hD.out
          obtain ⟨r1, r2, r3⟩ := HC1.out wr m hmn hD.out
          have e1 := HBD.out k hlt
          have e2 := HBD.out m hmn
          have i1 := H16.out k
          have i2 := H16.out m
          have hs := HST.out k
          rw [← hm.out] at hs
          obtain ⟨yk, hyk⟩ : ∃ y, y = yat ys k := ⟨_, rfl⟩
          obtain ⟨ym, hym⟩ : ∃ y, y = yat ys m := ⟨_, rfl⟩
          rw [← hyk] at p1 p2 p3 e1 i1 hs
          rw [← hym] at r1 r2 r3 e2 i2 hs
          clear hyk hym
          obtain ⟨y0, y1, y2⟩ := yk
          obtain ⟨z0, z1, z2⟩ := ym
          simp only at p1 p2 p3 r1 r2 r3 e1 e2 hs
          have HA := Lib.hid fun wx => measures_ex y0 y1 y2 wx i1
          have HZ := Lib.hid fun wx => measures_ex z0 z1 z2 wx i2
          have f1 := prod_bd e1.1 e2.2
          have f2 := prod_bd e2.1 e1.2
          have hbr : b < wr.heap.size := Nat.lt_of_lt_of_le hb1 hD.out.size
          have hbr1 : b < wr.heap.size + 1 := by omega
          have hbr2 : b < wr.heap.size + 1 + 1 := by omega
          have hbr3 : b < wr.heap.size + 1 + 1 + 1 := by omega
          have hbr4 : b < wr.heap.size + 1 + 1 + 1 + 1 := by omega
          have hbr5 : b < wr.heap.size + 1 + 1 + 1 + 1 + 1 := by omega
          have hbr6 : b < wr.heap.size + 1 + 1 + 1 + 1 + 1 + 1 := by omega
          have hbr7 : b < wr.heap.size + 1 + 1 + 1 + 1 + 1 + 1 + 1 := by omega
          have u1 : ∀ [Inhabited Nat], IntKind.i64.wrap (y0 * z2) = y0 * z2 := by intro _; exact (IntWalk.i64_in _ (by omega)).trans (by omega)
          have u2 : ∀ [Inhabited Nat], wrap64 (y0 * z2) = y0 * z2 := by intro _; exact (IntWalk.wrap64_in _ (by omega)).trans (by omega)
          have u3 : ∀ [Inhabited Nat], IntKind.i64.wrap (z0 * y2) = z0 * y2 := by intro _; exact (IntWalk.i64_in _ (by omega)).trans (by omega)
          have u4 : ∀ [Inhabited Nat], wrap64 (z0 * y2) = z0 * y2 := by intro _; exact (IntWalk.wrap64_in _ (by omega)).trans (by omega)
          have hkn : (k : Int) < (n : Int) := by omega
          have hmn : (m : Int) < (n : Int) := by omega
          have hk0 : (0 : Int) ≤ (k : Int) := by omega
          have hm0 : (0 : Int) ≤ (m : Int) := by omega
          have HSS := Lib.hid hs
          clear hs hm f1 f2 e1 e2 i1 i2
          go_upto_region 10 with fail
          go_cut [9, 10] from 34 to 40 (fun s9 s10 wx => ∃ B9 B10 : Nat, s9 = .pointer (some ⟨B9, 0, none⟩) ∧ s10 = .pointer (some ⟨B10, 0, none⟩) ∧ Hid (MAt wx B9 y0 y1 y2 ∧ MAt wx B10 z0 z1 z2 ∧ Below wr.heap.size wr wx))
          case first =>
            go_region_held3 (fun w' => w'.cell? ⟨wr.heap.size, 0, none⟩ = some (.int .i16 y0) ∧ w'.cell? ⟨wr.heap.size, 1, none⟩ = some (.int .i16 y1) ∧ w'.cell? ⟨wr.heap.size, 2, none⟩ = some (.int .i16 y2) ∧ w'.cell? ⟨b, off + m * 3, none⟩ = some (.int .i16 z0) ∧ w'.cell? ⟨b, off + m * 3 + 1, none⟩ = some (.int .i16 z1) ∧ w'.cell? ⟨b, off + m * 3 + 2, none⟩ = some (.int .i16 z2))
              (first | (go_keep; done) | (refine ⟨?_, ?_, ?_, ?_, ?_, ?_⟩ <;> first | exact (Below.cell (p := ⟨b, _, none⟩) (B := wr.heap.size) (w := wr) (by go_grown) hbr).trans r1 | exact (Below.cell (p := ⟨b, _, none⟩) (B := wr.heap.size) (w := wr) (by go_grown) hbr).trans r2 | exact (Below.cell (p := ⟨b, _, none⟩) (B := wr.heap.size) (w := wr) (by go_grown) hbr).trans r3 | (simp [go_sem, *]; done)))
              (first
              | (go_at_call_of 51 (Value.agg #[.int .i16 y0, .int .i16 y1, .int .i16 y2]); refine (HA.out _).mono ?_; rintro e w' ⟨rfl, rfl⟩)
              | (go_at_call_of 51 (Value.agg #[.int .i16 z0, .int .i16 z1, .int .i16 z2]); refine (HZ.out _).mono ?_; rintro e w' ⟨rfl, rfl⟩))
            all_goals go_wp2_with fail
            all_goals go_meet
            all_goals
              exact ⟨_, _, rfl, rfl, Lib.hid ⟨⟨by simp [go_sem], by simp [go_sem], by simp [go_sem]⟩, ⟨by simp [go_sem], by simp [go_sem], by simp [go_sem]⟩, by go_grown⟩⟩
          case rest =>
            obtain ⟨B9, B10, rfl, rfl, hcr⟩ := hcut
            obtain ⟨⟨x0, x1, x2⟩, ⟨x3, x4, x5⟩, hX⟩ := hcr.out
            have HX := Lib.hid (hD.out.trans (hX.mono hD.out.size))
            clear hX hcr p1 p2 p3 r1 r2 r3
            by_cases hgt : z0 * y2 < y0 * z2
            · have HE := Lib.hid (show weak ys (k + 1) = k by rw [HSS.out, if_pos hgt])
              have hgd : decide (z0 * y2 < y0 * z2) = true := decide_eq_true hgt
              go_wp2_with fail
              go_roundw
              case rel => exact ⟨k + 1, k, by omega, by omega, by go_num, rfl, Lib.hid HE.out.symm, HX⟩
              case measure => simp [intOf]; omega
            · have HE := Lib.hid (show weak ys (k + 1) = m by rw [HSS.out, if_neg hgt])
              have hgd : decide (z0 * y2 < y0 * z2) = false := decide_eq_false hgt
              go_wp2_with fail
              go_roundw
              case rel => exact ⟨k + 1, m, by omega, by omega, by go_num, rfl, Lib.hid HE.out.symm, HX⟩
              case measure => simp [intOf]; omega
        · have hkn : k = n := by omega
          subst hkn
          obtain rfl : m = M := hm.out.trans HM.out.symm
          obtain ⟨r1, r2, r3⟩ := HC1.out wr m hmn hD.out
          generalize (yat ys m).1 = z0 at *
          generalize (yat ys m).2.1 = z1 at *
          generalize (yat ys m).2.2 = z2 at *
          have hmn : (m : Int) < (k : Int) := by omega
          have hm0 : (0 : Int) ≤ (m : Int) := by omega
          have RR := Lib.hid (R1.out.below hD.out Z1.out)
          have BB := Lib.hid (B1.out.trans (hD.out.mono B1.out.size))
          have ZZ := Lib.hid (Nat.lt_of_lt_of_le Z1.out hD.out.size)
          clear hm hD
          go_wp2_with fail
          refine (HRR.out _).mono ?_
          rintro e w2 ⟨rfl, hB⟩
          have R2 := Lib.hid (RR.out.below hB ZZ.out)
          have B2 := Lib.hid (BB.out.trans (hB.mono BB.out.size))
          clear hB r1 r2 r3
          have ht := fbox_set R2.out p q'
          obtain ⟨⟨f0, f1⟩, g0, g1⟩ := R2.out
          go_wp2_with fail
          refine bodyPost_ret (v := .tuple #[.int .i64 m, .agg #[.int .i64 p, .int .i64 q'], .int .i64 0]) (by simp [results, go_sem, ht.1, ht.2, Tryd.f28]) rfl ?_
          exact ⟨rfl, (B2.out.setCell (Nat.le_refl _) _).setCell (Nat.le_refl _) _⟩
  · rw [weakF_no hc]
    rw [errOf_not p hc] at H2
    have hcd := askedF_bd ys true
    have HK := Lib.hid fun wx hx => codeOf_c (p := p) (askedF ys true) (by omega) (by omega) wx hx
    generalize p (askedF ys true - 1).toNat = ad at *
    generalize askedF ys true = c at *
    clear h hs hc hcd
    go_enter Tryd.func28, Tryd.ntmps28
    go_wp2_with fail
    refine H2.out.mono ?_
    rintro e w1 ⟨rfl, hB⟩
    have B1 := Lib.hid ((((Below.refl w.heap.size w).alloc (Nat.le_refl _) _).alloc (by simp only [World.size_alloc]; omega) _).trans (hB.mono (by simp only [World.size_alloc]; omega)))
    have R1 := Lib.hid (show FBox w1 w.heap.size 0 0 from FBox.below (w := (w.alloc _).alloc _) ⟨⟨by simp [go_sem], by simp [go_sem]⟩, by simp [go_sem], by simp [go_sem]⟩ hB (by simp only [World.size_alloc]; omega))
    clear hB
    go_wp2_with fail
    refine (HK.out _ (HS.out.below B1.out)).mono ?_
    rintro e w' ⟨rfl, rfl⟩
    have ht := fbox_set R1.out 0 0
    obtain ⟨⟨f0, f1⟩, g0, g1⟩ := R1.out
    go_wp2_with fail
    refine bodyPost_ret (v := .tuple #[.int .i64 0, .agg #[.int .i64 0, .int .i64 0], .int .i64 c]) (by simp [results, go_sem, ht.1, ht.2, Tryd.f28]) rfl ?_
    exact ⟨rfl, (B1.out.setCell (Nat.le_refl _) _).setCell (Nat.le_refl _) _⟩
end Go.Proofs.YtpkjogenkdckpaaDoor
