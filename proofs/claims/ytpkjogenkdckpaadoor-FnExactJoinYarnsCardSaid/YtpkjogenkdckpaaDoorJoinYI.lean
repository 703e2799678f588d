/-
  No statement is proved here: yarns that are joined by knots, as the program tells it; condition: the errors lie where the text lays them; at most 1048576 yarns.
-/
import Derived.Test.YtpkjogenkdckpaaDoorJoinY
namespace Go.Proofs.YtpkjogenkdckpaaDoor
open Go.ChangeShapes Go.WideShapes Go.ChangeAt Go.RowKit

set_option maxRecDepth 100000 in
set_option maxHeartbeats 4000000 in
theorem implJoin_any (p : Nat → Addr) (v : Value) (ys : List Yn) (kn : Int) (w : World) (hs : Sent w p) (h : Yarns w v ys) (hn : ys.length ≤ 1048576) :
    Calls Tryd.prog 21 #[v, .int .i64 kn] w fun e w' => e = .returned (.tuple #[.agg #[.int .i16 (joinF ys kn).1.1, .int .i16 (joinF ys kn).1.2.1, .int .i16 (joinF ys kn).1.2.2], .int .i64 (joinF ys kn).2]) ∧ Below w.heap.size w w' := by
  obtain ⟨a0, c0, rfl⟩ := h.len
  have H2 := Lib.hid (check3_any p (w.heap.size + 1) 3 (.slice a0 ys.length c0) ys kn 0 20 ((w.alloc (.cells #[.int .i16 0, .int .i16 0, .int .i16 0] 25)).alloc (.cells #[.iface 82 (.slice a0 ys.length c0), .iface 71 (.agg #[.int .i64 kn, .int .i64 0, .int .i64 20]), .iface 85 (.int .i64 ys.length)] 101))
    ((hs.below ((Below.refl _ _).alloc (Nat.le_refl _) _)).below ((Below.refl _ _).alloc (Nat.le_refl _) _)) ((h.below ((Below.refl _ _).alloc (Nat.le_refl _) _)).below ((Below.refl _ _).alloc (Nat.le_refl _) _)) hn (by simp [go_sem]) (by simp [go_sem]) (by simp [go_sem]))
  have q1 := neqNil_err
  have q2 := neqNil_nil
  have HY := Lib.hid h
  have HS := Lib.hid hs
  by_cases hc : askedF ys (inB kn 0 20) = 0
  · rw [hc, errOf_zero] at H2
    by_cases h0 : ys.length = 0
    · have JO := Lib.hid (joinF_none hc h0)
      generalize joinF ys kn = out at *
      obtain ⟨n, hln⟩ : ∃ n, n = ys.length := ⟨_, rfl⟩
      rw [← hln] at h0 H2 ⊢
      have hn0 : ((n : Int) == 0) = true := by simp [h0]
      clear hc h hs h0 hln HY
      go_enter Tryd.func21, Tryd.ntmps21
      go_wp2_with fail
      refine H2.out.mono ?_
      rintro e w1 ⟨rfl, hB⟩
      have B1 := Lib.hid ((((Below.refl w.heap.size w).alloc (Nat.le_refl _) _).alloc (by simp) _).trans (hB.mono (by simp; omega)))
      have R1 := Lib.hid (((yfree_new w).below ((Below.refl _ _).alloc (Nat.le_refl _) _) (by simp)).below hB (by simp; omega))
      have z1 : w.heap.size < w1.heap.size := by have := hB.size; simp at this; omega
      have Z1 := Lib.hid z1
      clear hB z1
      have ht := yfree_set R1.out 0 0 0
      obtain ⟨⟨f0, f1, f2⟩, g0, g1, g2⟩ := R1.out
      go_wp2_with fail
      refine bodyPost_ret (v := .tuple #[.agg #[.int .i16 0, .int .i16 0, .int .i16 0], .int .i64 6]) (by simp [results, go_sem, ht.1, ht.2.1, ht.2.2, Tryd.f21]) rfl ?_
      refine ⟨?_, ((B1.out.setCell (Nat.le_refl _) _).setCell (Nat.le_refl _) _).setCell (Nat.le_refl _) _⟩
      rw [JO.out]
    · have hkn := inB_of (askedF_zero hc).2.1
      have hlen := (askedF_zero hc).2.2
      have H3 := Lib.hid fun wx hx => summed_any (.slice a0 ys.length c0) ys wx hx hn (by omega)
      have D1 := sm_bd (f := longY) (ys := ys) (fun j => (h.1 j).1) ys.length (Nat.le_refl _)
      have D2 := sm_bd (f := twistY) (ys := ys) (fun j => (h.1 j).2.1) ys.length (Nat.le_refl _)
      have D3 := sm_bd (f := gramsY) (ys := ys) (fun j => (h.1 j).2.2) ys.length (Nat.le_refl _)
      have JY := Lib.hid (fun h1 => joinF_yes hc h0 h1)
      have JN := Lib.hid (fun h1 => joinF_bad hc h0 h1)
      have HT : tied ys kn = sm longY ys ys.length + (kn - kn * (ys.length : Int)) := rfl
      generalize joinF ys kn = out at *
      obtain ⟨L, hLe⟩ : ∃ L, L = tied ys kn := ⟨_, rfl⟩
      rw [← hLe] at JY JN HT
      generalize sm longY ys ys.length = SL at *
      generalize sm twistY ys ys.length = T at *
      generalize sm gramsY ys ys.length = G at *
      have H4 := Lib.hid fun wx => areRight_any L T G wx (by omega)
      obtain ⟨n, hln⟩ : ∃ n, n = ys.length := ⟨_, rfl⟩
      rw [← hln] at HT hn h0 hlen H2 H3 HY D1 D2 D3 ⊢
      obtain ⟨kk, hkk⟩ : ∃ kk : Int, kk = kn * ((n : Int) - 1) := ⟨_, rfl⟩
      have hnb : (n : Int) ≤ 10 := by omega
      have hkkb : 0 ≤ kk ∧ kk ≤ 200 := by
        have h2 : (0 : Int) ≤ (n : Int) - 1 := by omega
        refine ⟨by rw [hkk]; exact Int.mul_nonneg hkn.1 h2, ?_⟩
        have := Int.mul_le_mul hkn.2 (show (n : Int) - 1 ≤ 10 by omega) h2 (by decide)
        omega
      have hLk : L = SL - kk := by rw [HT, hkk, Int.mul_sub]; omega
      obtain ⟨kn1, kn2⟩ := hkn
      obtain ⟨kk1, kk2⟩ := hkkb
      have hk0 : IntKind.i64.wrap ((n : Int) - 1) = (n : Int) - 1 := (IntWalk.i64_in ((n : Int) - 1) (by omega)).trans (by omega)
      have hk00 : wrap64 ((n : Int) - 1) = (n : Int) - 1 := (IntWalk.wrap64_in ((n : Int) - 1) (by omega)).trans (by omega)
      have hk1 : IntKind.i64.wrap (kn * ((n : Int) - 1)) = kk := by rw [← hkk]; exact (IntWalk.i64_in kk (by omega)).trans (by omega)
      have hk2 : wrap64 (kn * ((n : Int) - 1)) = kk := by rw [← hkk]; exact (IntWalk.wrap64_in kk (by omega)).trans (by omega)
      have hn0 : ((n : Int) == 0) = false := by simp; omega
      subst hLk
      clear hln h hc hkk HT hs hLe
      cases hok : okR (SL - kk) T G with
      | false =>
        have JO := Lib.hid (JN.out hok)
        rw [hok] at H4
        clear JY JN hok
        go_enter Tryd.func21, Tryd.ntmps21
        go_wp2_with fail
        refine H2.out.mono ?_
        rintro e w1 ⟨rfl, hB⟩
        have B1 := Lib.hid ((((Below.refl w.heap.size w).alloc (Nat.le_refl _) _).alloc (by simp) _).trans (hB.mono (by simp; omega)))
        have R1 := Lib.hid (((yfree_new w).below ((Below.refl _ _).alloc (Nat.le_refl _) _) (by simp)).below hB (by simp; omega))
        have z1 : w.heap.size < w1.heap.size := by have := hB.size; simp at this; omega
        have Z1 := Lib.hid z1
        clear hB z1
        go_wp2_with fail
        refine (H3.out _ (HY.out.below B1.out)).mono ?_
        rintro e w2 ⟨rfl, hB⟩
        have B2 := Lib.hid (B1.out.trans (hB.mono B1.out.size))
        have R2 := Lib.hid (R1.out.below hB Z1.out)
        have Z2 := Lib.hid (Nat.lt_of_lt_of_le Z1.out hB.size)
        clear hB R1 Z1
        go_wp2_with fail
        refine (H4.out _).mono ?_
        rintro e w3 ⟨rfl, hB⟩
        have M3 := Lib.hid (show MFree w3 w2.heap.size (SL - kk) T G from MFree.below (mfree_new w2 (SL - kk) T G) hB (by simp))
        have R3 := Lib.hid ((R2.out.below ((Below.refl w2.heap.size w2).alloc (Nat.le_refl _) _) Z2.out).below hB (by have := Z2.out; simp; omega))
        have Z3 := Lib.hid (show w.heap.size < w3.heap.size by have := Z2.out; have := hB.size; simp at this; omega)
        have B3 := Lib.hid ((B2.out.alloc B2.out.size _).trans (hB.mono (by have := B2.out.size; simp; omega)))
        obtain ⟨⟨m0, m1, m2⟩, _⟩ := M3.out
        clear hB
        have ht := yfree_set R3.out 0 0 0
        obtain ⟨⟨f0, f1, f2⟩, g0, g1, g2⟩ := R3.out
        go_wp2_with fail
        refine bodyPost_ret (v := .tuple #[.agg #[.int .i16 0, .int .i16 0, .int .i16 0], .int .i64 4]) (by simp [results, go_sem, ht.1, ht.2.1, ht.2.2, Tryd.f21]) rfl ?_
        refine ⟨?_, ((B3.out.setCell (Nat.le_refl _) _).setCell (Nat.le_refl _) _).setCell (Nat.le_refl _) _⟩
        rw [JO.out]
      | true =>
        have JO := Lib.hid (JY.out hok)
        have H5 := Lib.hid fun wx => mkYarn_any (SL - kk) T G wx hok
        rw [hok] at H4
        clear JY JN hok
        go_enter Tryd.func21, Tryd.ntmps21
        go_wp2_with fail
        refine H2.out.mono ?_
        rintro e w1 ⟨rfl, hB⟩
        have B1 := Lib.hid ((((Below.refl w.heap.size w).alloc (Nat.le_refl _) _).alloc (by simp) _).trans (hB.mono (by simp; omega)))
        have R1 := Lib.hid (((yfree_new w).below ((Below.refl _ _).alloc (Nat.le_refl _) _) (by simp)).below hB (by simp; omega))
        have z1 : w.heap.size < w1.heap.size := by have := hB.size; simp at this; omega
        have Z1 := Lib.hid z1
        clear hB z1
        go_wp2_with fail
        refine (H3.out _ (HY.out.below B1.out)).mono ?_
        rintro e w2 ⟨rfl, hB⟩
        have B2 := Lib.hid (B1.out.trans (hB.mono B1.out.size))
        have R2 := Lib.hid (R1.out.below hB Z1.out)
        have Z2 := Lib.hid (Nat.lt_of_lt_of_le Z1.out hB.size)
        clear hB R1 Z1
        go_wp2_with fail
        refine (H4.out _).mono ?_
        rintro e w3 ⟨rfl, hB⟩
        have M3 := Lib.hid (show MFree w3 w2.heap.size (SL - kk) T G from MFree.below (mfree_new w2 (SL - kk) T G) hB (by simp))
        have R3 := Lib.hid ((R2.out.below ((Below.refl w2.heap.size w2).alloc (Nat.le_refl _) _) Z2.out).below hB (by have := Z2.out; simp; omega))
        have Z3 := Lib.hid (show w.heap.size < w3.heap.size by have := Z2.out; have := hB.size; simp at this; omega)
        have B3 := Lib.hid ((B2.out.alloc B2.out.size _).trans (hB.mono (by have := B2.out.size; simp; omega)))
        obtain ⟨⟨m0, m1, m2⟩, _⟩ := M3.out
        clear hB
        go_wp2_with fail
        refine (H5.out _).mono ?_
        rintro e w4 ⟨rfl, hB⟩
        have R4 := Lib.hid (R3.out.below hB Z3.out)
        have B4 := Lib.hid (B3.out.trans (hB.mono B3.out.size))
        clear hB m0 m1 m2
        have ht := yfree_set R4.out (SL - kk) T G
        obtain ⟨⟨f0, f1, f2⟩, g0, g1, g2⟩ := R4.out
        go_wp2_with fail
        refine bodyPost_ret (v := .tuple #[.agg #[.int .i16 (SL - kk), .int .i16 T, .int .i16 G], .int .i64 0]) (by simp [results, go_sem, ht.1, ht.2.1, ht.2.2, Tryd.f21]) rfl ?_
        refine ⟨?_, ((B4.out.setCell (Nat.le_refl _) _).setCell (Nat.le_refl _) _).setCell (Nat.le_refl _) _⟩
        rw [JO.out]
  · have hb := askedF_bd ys (inB kn 0 20)
    have JO := Lib.hid (joinF_no hc)
    rw [errOf_not p hc] at H2
    generalize joinF ys kn = out at *
    generalize askedF ys (inB kn 0 20) = c at *
    have H3 := Lib.hid fun wx hx => codeOf_c (p := p) c (by omega) (by omega) wx hx
    generalize p (c - 1).toNat = ad at *
    clear h hs hb
    go_enter Tryd.func21, Tryd.ntmps21
    go_wp2_with fail
    refine H2.out.mono ?_
    rintro e w1 ⟨rfl, hB⟩
    have B1 := Lib.hid ((((Below.refl w.heap.size w).alloc (Nat.le_refl _) _).alloc (by simp) _).trans (hB.mono (by simp; omega)))
    have R1 := Lib.hid (((yfree_new w).below ((Below.refl _ _).alloc (Nat.le_refl _) _) (by simp)).below hB (by simp; omega))
    have z1 : w.heap.size < w1.heap.size := by have := hB.size; simp at this; omega
    have Z1 := Lib.hid z1
    clear hB z1
    go_wp2_with fail
    refine (H3.out _ (HS.out.below B1.out)).mono ?_
    rintro e w' ⟨rfl, rfl⟩
    have ht := yfree_set R1.out 0 0 0
    obtain ⟨⟨f0, f1, f2⟩, g0, g1, g2⟩ := R1.out
    go_wp2_with fail
    refine bodyPost_ret (v := .tuple #[.agg #[.int .i16 0, .int .i16 0, .int .i16 0], .int .i64 c]) (by simp [results, go_sem, ht.1, ht.2.1, ht.2.2, Tryd.f21]) rfl ?_
    refine ⟨?_, ((B1.out.setCell (Nat.le_refl _) _).setCell (Nat.le_refl _) _).setCell (Nat.le_refl _) _⟩
    rw [JO.out]

end Go.Proofs.YtpkjogenkdckpaaDoor
