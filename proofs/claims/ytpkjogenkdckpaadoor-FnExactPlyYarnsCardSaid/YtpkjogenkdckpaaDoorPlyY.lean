/-
  No statement is proved here: yarns that are plied, as the program and as the document's own text tell it; condition: the errors lie where the text lays them; at most 1048576 yarns.
-/
import Derived.Test.YtpkjogenkdckpaaDoorSpools
import Derived.Test.YtpkjogenkdckpaaDoorSummed
namespace Go.Proofs.YtpkjogenkdckpaaDoor
open Go.ChangeShapes Go.WideShapes Go.ChangeAt Go.RowKit

/-- What PlyYarns answers. -/
def plyF (ys : List Yn) (t : Int) : Yn × Int :=
  if (pliedF ys t).2 = 0 then
    (if okR (pliedF ys t).1 t (sm gramsY ys ys.length) = true then (((pliedF ys t).1, t, sm gramsY ys ys.length), 0) else ((0, 0, 0), 4))
  else ((0, 0, 0), (pliedF ys t).2)
theorem plyF_no {ys : List Yn} {t : Int} (h : ¬ (pliedF ys t).2 = 0) : plyF ys t = ((0, 0, 0), (pliedF ys t).2) := by unfold plyF; rw [if_neg h]
theorem plyF_yes {ys : List Yn} {t : Int} (h : (pliedF ys t).2 = 0) (h1 : okR (pliedF ys t).1 t (sm gramsY ys ys.length) = true) : plyF ys t = (((pliedF ys t).1, t, sm gramsY ys ys.length), 0) := by unfold plyF; rw [if_pos h, if_pos h1]
theorem plyF_bad {ys : List Yn} {t : Int} (h : (pliedF ys t).2 = 0) (h1 : okR (pliedF ys t).1 t (sm gramsY ys ys.length) = false) : plyF ys t = ((0, 0, 0), 4) := by unfold plyF; rw [if_pos h, if_neg (by rw [h1]; simp)]
theorem pliedF_zero {ys : List Yn} {t : Int} (h : (pliedF ys t).2 = 0) : pliesF ys t = 0 ∧ ¬ shortest ys - (t.natAbs : Int) / 50 < 1 ∧ (pliedF ys t).1 = shortest ys - (t.natAbs : Int) / 50 := by
  by_cases hc : pliesF ys t = 0
  · by_cases h' : shortest ys - (t.natAbs : Int) / 50 < 1
    · rw [pliedF_short hc h'] at h; simp at h
    · rw [pliedF_yes hc h']; exact ⟨hc, h', rfl⟩
  · rw [pliedF_no hc] at h; exact absurd h hc

theorem fieldG (x y z : Int) (w : World) : (Instr.field 76 (.agg #[.int .i64 x, .int .i64 y, .int .i64 z]) 2).run Tryd.prog w = .ok (.int .i64 z) w := by kernel_rfl

set_option maxRecDepth 100000 in
set_option maxHeartbeats 4000000 in
theorem implPly_any (p : Nat → Addr) (v : Value) (ys : List Yn) (t : Int) (w : World) (hs : Sent w p) (h : Yarns w v ys) (hn : ys.length ≤ 1048576) :
    Calls Tryd.prog 31 #[v, .int .i64 t] w fun e w' => e = .returned (.tuple #[.agg #[.int .i16 (plyF ys t).1.1, .int .i16 (plyF ys t).1.2.1, .int .i16 (plyF ys t).1.2.2], .int .i64 (plyF ys t).2]) ∧ Below w.heap.size w w' := by
  have H1 := Lib.hid fun wx hs hx => pliedLong_any p v ys t wx hs hx hn
  have q1 := neqNil_err
  have q2 := neqNil_nil
  have q3 := fieldG
  have HY := Lib.hid h
  have HS := Lib.hid hs
  by_cases hc : (pliedF ys t).2 = 0
  · have hz := pliesF_zero (pliedF_zero hc).1
    have H2 := Lib.hid fun wx hx => summed_any v ys wx hx hn (by omega)
    have PY := Lib.hid fun h1 => plyF_yes hc h1
    have PN := Lib.hid fun h1 => plyF_bad hc h1
    rw [hc, errOf_zero] at H1
    obtain ⟨_, ⟨t1, t2⟩, _⟩ := hz
    generalize plyF ys t = out at *
    generalize (pliedF ys t).1 = L at *
    generalize sm longY ys ys.length = SL at *
    generalize sm twistY ys ys.length = ST at *
    generalize sm gramsY ys ys.length = G at *
    have H3 := Lib.hid fun wx => areRight_any L t G wx (by omega)
    clear hc h hs
    cases hok : okR L t G with
    | false =>
      rw [PN.out hok]
      rw [hok] at H3
      clear PY PN hok
      go_enter Tryd.func31, Tryd.ntmps31
      go_wp2_with fail
      refine (H1.out _ (HS.out.below ((Below.refl _ _).alloc (Nat.le_refl _) _)) (HY.out.below ((Below.refl _ _).alloc (Nat.le_refl _) _))).mono ?_
      rintro e w1 ⟨rfl, hB⟩
      have B1 := Lib.hid (((Below.refl w.heap.size w).alloc (Nat.le_refl _) _).trans (hB.mono (by simp)))
      have R1 := Lib.hid ((yfree_new w).below hB (by simp))
      have z1 : w.heap.size < w1.heap.size := by have := hB.size; simp at this; omega
      have Z1 := Lib.hid z1
      clear hB z1
      go_wp2_with fail
      refine (H2.out _ (HY.out.below B1.out)).mono ?_
      rintro e w2 ⟨rfl, hB⟩
      have B2 := Lib.hid (B1.out.trans (hB.mono B1.out.size))
      have R2 := Lib.hid (R1.out.below hB Z1.out)
      have Z2 := Lib.hid (Nat.lt_of_lt_of_le Z1.out hB.size)
      clear hB R1 Z1
      go_wp2_with fail
      refine (H3.out _).mono ?_
      rintro e w3 ⟨rfl, hB⟩
      have M3 := Lib.hid (show MFree w3 w2.heap.size L t G from MFree.below (mfree_new w2 L t G) hB (by simp))
      have R3 := Lib.hid ((R2.out.below ((Below.refl w2.heap.size w2).alloc (Nat.le_refl _) _) Z2.out).below hB (by have := Z2.out; simp; omega))
      have B3 := Lib.hid ((B2.out.alloc B2.out.size _).trans (hB.mono (by have := B2.out.size; simp; omega)))
      clear hB
      have ht := yfree_set R3.out 0 0 0
      obtain ⟨⟨f0, f1, f2⟩, g0, g1, g2⟩ := R3.out
      go_wp2_with fail
      refine bodyPost_ret (v := .tuple #[.agg #[.int .i16 0, .int .i16 0, .int .i16 0], .int .i64 4]) (by simp [results, go_sem, ht.1, ht.2.1, ht.2.2, Tryd.f31]) rfl ?_
      exact ⟨rfl, ((B3.out.setCell (Nat.le_refl _) _).setCell (Nat.le_refl _) _).setCell (Nat.le_refl _) _⟩
    | true =>
      rw [PY.out hok]
      rw [hok] at H3
      have H4 := Lib.hid fun wx => mkYarn_any L t G wx hok
      clear PY PN hok
      go_enter Tryd.func31, Tryd.ntmps31
      go_wp2_with fail
      refine (H1.out _ (HS.out.below ((Below.refl _ _).alloc (Nat.le_refl _) _)) (HY.out.below ((Below.refl _ _).alloc (Nat.le_refl _) _))).mono ?_
      rintro e w1 ⟨rfl, hB⟩
      have B1 := Lib.hid (((Below.refl w.heap.size w).alloc (Nat.le_refl _) _).trans (hB.mono (by simp)))
      have R1 := Lib.hid ((yfree_new w).below hB (by simp))
      have z1 : w.heap.size < w1.heap.size := by have := hB.size; simp at this; omega
      have Z1 := Lib.hid z1
      clear hB z1
      go_wp2_with fail
      refine (H2.out _ (HY.out.below B1.out)).mono ?_
      rintro e w2 ⟨rfl, hB⟩
      have B2 := Lib.hid (B1.out.trans (hB.mono B1.out.size))
      have R2 := Lib.hid (R1.out.below hB Z1.out)
      have Z2 := Lib.hid (Nat.lt_of_lt_of_le Z1.out hB.size)
      clear hB R1 Z1
      go_wp2_with fail
      refine (H3.out _).mono ?_
      rintro e w3 ⟨rfl, hB⟩
      have M3 := Lib.hid (show MFree w3 w2.heap.size L t G from MFree.below (mfree_new w2 L t G) hB (by simp))
      have R3 := Lib.hid ((R2.out.below ((Below.refl w2.heap.size w2).alloc (Nat.le_refl _) _) Z2.out).below hB (by have := Z2.out; simp; omega))
      have Z3 := Lib.hid (show w.heap.size < w3.heap.size by have := Z2.out; have := hB.size; simp at this; omega)
      have B3 := Lib.hid ((B2.out.alloc B2.out.size _).trans (hB.mono (by have := B2.out.size; simp; omega)))
      obtain ⟨⟨m0, m1, m2⟩, _⟩ := M3.out
      clear hB
      go_wp2_with fail
      refine (H4.out _).mono ?_
      rintro e w4 ⟨rfl, hB⟩
      have R4 := Lib.hid (R3.out.below hB Z3.out)
      have B4 := Lib.hid (B3.out.trans (hB.mono B3.out.size))
      clear hB m0 m1 m2
      have ht := yfree_set R4.out L t G
      obtain ⟨⟨f0, f1, f2⟩, g0, g1, g2⟩ := R4.out
      go_wp2_with fail
      refine bodyPost_ret (v := .tuple #[.agg #[.int .i16 L, .int .i16 t, .int .i16 G], .int .i64 0]) (by simp [results, go_sem, ht.1, ht.2.1, ht.2.2, Tryd.f31]) rfl ?_
      exact ⟨rfl, ((B4.out.setCell (Nat.le_refl _) _).setCell (Nat.le_refl _) _).setCell (Nat.le_refl _) _⟩
  · have hb := pliedF_bd ys t
    rw [plyF_no hc]
    rw [errOf_not p hc] at H1
    generalize (pliedF ys t).1 = L at *
    generalize (pliedF ys t).2 = c at *
    have H2 := Lib.hid fun wx hx => codeOf_c (p := p) c (by omega) (by omega) wx hx
    generalize p (c - 1).toNat = ad at *
    clear h hs hb
    go_enter Tryd.func31, Tryd.ntmps31
    go_wp2_with fail
    refine (H1.out _ (HS.out.below ((Below.refl _ _).alloc (Nat.le_refl _) _)) (HY.out.below ((Below.refl _ _).alloc (Nat.le_refl _) _))).mono ?_
    rintro e w1 ⟨rfl, hB⟩
    have B1 := Lib.hid (((Below.refl w.heap.size w).alloc (Nat.le_refl _) _).trans (hB.mono (by simp)))
    have R1 := Lib.hid ((yfree_new w).below hB (by simp))
    have z1 : w.heap.size < w1.heap.size := by have := hB.size; simp at this; omega
    have Z1 := Lib.hid z1
    clear hB z1
    go_wp2_with fail
    refine (H2.out _ (HS.out.below B1.out)).mono ?_
    rintro e w' ⟨rfl, rfl⟩
    have ht := yfree_set R1.out 0 0 0
    obtain ⟨⟨f0, f1, f2⟩, g0, g1, g2⟩ := R1.out
    go_wp2_with fail
    refine bodyPost_ret (v := .tuple #[.agg #[.int .i16 0, .int .i16 0, .int .i16 0], .int .i64 c]) (by simp [results, go_sem, ht.1, ht.2.1, ht.2.2, Tryd.f31]) rfl ?_
    exact ⟨rfl, ((B1.out.setCell (Nat.le_refl _) _).setCell (Nat.le_refl _) _).setCell (Nat.le_refl _) _⟩

theorem pliedF_code {ys : List Yn} {t : Int} (h : ¬ pliesF ys t = 0) : ¬ (pliedF ys t).2 = 0 ∧ (pliedF ys t).2 = pliesF ys t := by rw [pliedF_no h]; exact ⟨h, rfl⟩

set_option maxRecDepth 100000 in
set_option maxHeartbeats 4000000 in
theorem specPly_any (v : Value) (ys : List Yn) (t : Int) (w : World) (h : Yarns w v ys) (hn : ys.length ≤ 1048576) :
    Calls Tryd.prog 30 #[v, .int .i64 t] w fun e w' => e = .returned (.tuple #[.agg #[.int .i16 (plyF ys t).1.1, .int .i16 (plyF ys t).1.2.1, .int .i16 (plyF ys t).1.2.2], .int .i64 (plyF ys t).2]) ∧ Below w.heap.size w w' := by
  have H1 := Lib.hid fun wx hx => l03Plies_any v ys t wx hx hn
  have HY := Lib.hid h
  by_cases hc : pliesF ys t = 0
  · have hz := pliesF_zero hc
    have H2 := Lib.hid fun wx hx => l03Plied_any v ys t wx hx hn (by omega) hz.1 hz.2.1
    rw [hc] at H1
    by_cases hsh : shortest ys - (t.natAbs : Int) / 50 < 1
    · have hp : (pliedF ys t).2 = 6 := by rw [pliedF_short hc hsh]
      have JO := Lib.hid (plyF_no (ys := ys) (t := t) (by rw [hp]; decide))
      rw [hp] at JO
      generalize plyF ys t = out at *
      generalize shortest ys - (t.natAbs : Int) / 50 = L at *
      clear hc h hz hp
      go_enter Tryd.func30, Tryd.ntmps30
      go_wp2_with fail
      refine (H1.out _ (HY.out.below ((Below.refl _ _).alloc (Nat.le_refl _) _))).mono ?_
      rintro e w1 ⟨rfl, hB⟩
      have B1 := Lib.hid (((Below.refl w.heap.size w).alloc (Nat.le_refl _) _).trans (hB.mono (by simp)))
      have R1 := Lib.hid ((yfree_new w).below hB (by simp))
      have z1 : w.heap.size < w1.heap.size := by have := hB.size; simp at this; omega
      have Z1 := Lib.hid z1
      clear hB z1
      go_wp2_with fail
      refine (H2.out _ (HY.out.below B1.out)).mono ?_
      rintro e w' ⟨rfl, rfl⟩
      have ht := yfree_set R1.out 0 0 0
      obtain ⟨⟨f0, f1, f2⟩, g0, g1, g2⟩ := R1.out
      go_wp2_with fail
      refine bodyPost_ret (v := .tuple #[.agg #[.int .i16 0, .int .i16 0, .int .i16 0], .int .i64 6]) (by simp [results, go_sem, ht.1, ht.2.1, ht.2.2, Tryd.f30]) rfl ?_
      refine ⟨?_, ((B1.out.setCell (Nat.le_refl _) _).setCell (Nat.le_refl _) _).setCell (Nat.le_refl _) _⟩
      rw [JO.out]
      
    · obtain ⟨b, off, cap, rfl, hb, hcells⟩ := h.pos (by omega)
      have hp := pliedF_yes hc hsh
      have S3 := Lib.hid (sm_step gramsY ys)
      have D3 := Lib.hid (sm_bd (f := gramsY) (ys := ys) fun j => (h.1 j).2.2)
      have PY := Lib.hid fun h1 => plyF_yes (ys := ys) (t := t) (by rw [hp]) h1
      have PN := Lib.hid fun h1 => plyF_bad (ys := ys) (t := t) (by rw [hp]) h1
      rw [hp] at PY PN
      simp only at PY PN
      generalize plyF ys t = out at *
      have H16 := Lib.hid h.1
      obtain ⟨L, hLe⟩ : ∃ L, L = shortest ys - (t.natAbs : Int) / 50 := ⟨_, rfl⟩
      rw [← hLe] at H2 PY PN hsh
      obtain ⟨G, hGe⟩ : ∃ G, G = sm gramsY ys ys.length := ⟨_, rfl⟩
      rw [← hGe] at PY PN
      have HGE := Lib.hid hGe
      have HM := Lib.hid fun wx => l03Make_any L t G wx
      obtain ⟨n, hln⟩ : ∃ n, n = ys.length := ⟨_, rfl⟩
      have hnb : (n : Int) ≤ 6 := by omega
      rw [← hln] at S3 D3 HGE hcells hn H2 H1 HY ⊢
      have HC := Lib.hid hcells
      clear hcells hln h hc hz hGe hLe hp
      go_enter Tryd.func30, Tryd.ntmps30
      go_wp2_with fail
      refine (H1.out _ (HY.out.below ((Below.refl _ _).alloc (Nat.le_refl _) _))).mono ?_
      rintro e w1 ⟨rfl, hB⟩
      have B1 := Lib.hid (((Below.refl w.heap.size w).alloc (Nat.le_refl _) _).trans (hB.mono (by simp)))
      have R1 := Lib.hid ((yfree_new w).below hB (by simp))
      have z1 : w.heap.size < w1.heap.size := by have := hB.size; simp at this; omega
      have Z1 := Lib.hid z1
      clear hB z1
      go_wp2_with fail
      refine (H2.out _ (HY.out.below B1.out)).mono ?_
      rintro e w' ⟨rfl, rfl⟩
      go_wp2_with fail
      go_loop [8, 9] (fun g i => ∃ (k : Nat) (q3 : Int), k ≤ n ∧ i = .int .i64 k ∧ g = .int .i64 q3 ∧ Hid (q3 = sm gramsY ys k)) (fun _ i => n - (intOf i).toNat)
      case atStart => exact ⟨0, 0, Nat.zero_le _, rfl, rfl, Lib.hid rfl⟩
      case round =>
        obtain ⟨k, q3, hk, rfl, rfl, hq⟩ := hrel
        by_cases hlt : k < n
        · obtain ⟨p1, p2, p3⟩ := HC.out k hlt
          have u3 := H16.out k
          have b3 := D3.out k hk
          have E3 := Lib.hid (S3.out k hlt)
          rw [← hq.out] at b3 E3
          obtain ⟨y, hy⟩ : ∃ y, y = yat ys k := ⟨_, rfl⟩
          rw [← hy] at p1 p2 p3 u3 E3
          clear hy hq
          obtain ⟨y0, y1, y2⟩ := y
          simp only [gramsY] at p1 p2 p3 E3
          have d1 := (B1.out.cell (p := ⟨b, off + k * 3, none⟩) hb).trans p1
          have d2 := (B1.out.cell (p := ⟨b, off + k * 3 + 1, none⟩) hb).trans p2
          have d3 := (B1.out.cell (p := ⟨b, off + k * 3 + 2, none⟩) hb).trans p3
          obtain ⟨⟨r1, r2⟩, ⟨r3, r4⟩, r5, r6⟩ := u3
          simp only at r1 r2 r3 r4 r5 r6
          clear p1 p2 p3
          go_wp2_with fail
          go_round
          case rel => exact ⟨k + 1, q3 + y2, by omega, by go_num, rfl, Lib.hid E3.out.symm⟩
          case measure => simp [intOf]; omega
        · have hkn : k = n := by omega
          subst hkn
          obtain rfl : G = q3 := by rw [HGE.out, hq.out]
          clear hq HGE
          cases hok : okR L t G with
          | false =>
            have JO := Lib.hid (PN.out hok)
            rw [mkY_no hok, hok] at HM
            clear PY PN hok
            go_wp2_with fail
            refine (HM.out _).mono ?_
            rintro e w2 ⟨rfl, hB⟩
            have B2 := Lib.hid (B1.out.trans (hB.mono B1.out.size))
            have Z2 := Lib.hid (Nat.lt_of_lt_of_le Z1.out hB.size)
            have R2 := Lib.hid (R1.out.below hB Z1.out)
            clear hB
            have ht := yfree_set R2.out 0 0 0
            obtain ⟨⟨f0, f1, f2⟩, g0, g1, g2⟩ := R2.out
            have z2 := Z2.out
            go_wp2_with fail
            refine bodyPost_ret (v := .tuple #[.agg #[.int .i16 0, .int .i16 0, .int .i16 0], .int .i64 4]) (by simp [results, go_sem, ht.1, ht.2.1, ht.2.2, z2, Tryd.f30]) rfl ?_
            refine ⟨?_, (((B2.out.setCell (Nat.le_refl _) _).setCell (Nat.le_refl _) _).setCell (Nat.le_refl _) _).alloc (by simp only [World.size_setCell]; exact B2.out.size) _⟩
            rw [JO.out]
            
          | true =>
            have JO := Lib.hid (PY.out hok)
            rw [mkY_yes hok, hok] at HM
            clear PY PN hok
            go_wp2_with fail
            refine (HM.out _).mono ?_
            rintro e w2 ⟨rfl, hB⟩
            have B2 := Lib.hid (B1.out.trans (hB.mono B1.out.size))
            have Z2 := Lib.hid (Nat.lt_of_lt_of_le Z1.out hB.size)
            have R2 := Lib.hid (R1.out.below hB Z1.out)
            clear hB
            have ht := yfree_set R2.out L t G
            obtain ⟨⟨f0, f1, f2⟩, g0, g1, g2⟩ := R2.out
            have z2 := Z2.out
            go_wp2_with fail
            refine bodyPost_ret (v := .tuple #[.agg #[.int .i16 L, .int .i16 t, .int .i16 G], .int .i64 0]) (by simp [results, go_sem, ht.1, ht.2.1, ht.2.2, z2, Tryd.f30]) rfl ?_
            refine ⟨?_, (((B2.out.setCell (Nat.le_refl _) _).setCell (Nat.le_refl _) _).setCell (Nat.le_refl _) _).alloc (by simp only [World.size_setCell]; exact B2.out.size) _⟩
            rw [JO.out]
            
  · have hp := pliedF_code hc
    have JO := Lib.hid (plyF_no hp.1)
    rw [hp.2] at JO
    generalize plyF ys t = out at *
    generalize pliesF ys t = c at *
    have hcb : (c != 0) = true := by simp [hc]
    clear h hp
    go_enter Tryd.func30, Tryd.ntmps30
    go_wp2_with fail
    refine (H1.out _ (HY.out.below ((Below.refl _ _).alloc (Nat.le_refl _) _))).mono ?_
    rintro e w1 ⟨rfl, hB⟩
    have B1 := Lib.hid (((Below.refl w.heap.size w).alloc (Nat.le_refl _) _).trans (hB.mono (by simp)))
    have R1 := Lib.hid ((yfree_new w).below hB (by simp))
    have z1 : w.heap.size < w1.heap.size := by have := hB.size; simp at this; omega
    have Z1 := Lib.hid z1
    clear hB z1
    have ht := yfree_set R1.out 0 0 0
    obtain ⟨⟨f0, f1, f2⟩, g0, g1, g2⟩ := R1.out
    go_wp2_with fail
    refine bodyPost_ret (v := .tuple #[.agg #[.int .i16 0, .int .i16 0, .int .i16 0], .int .i64 c]) (by simp [results, go_sem, ht.1, ht.2.1, ht.2.2, Tryd.f30]) rfl ?_
    refine ⟨?_, ((B1.out.setCell (Nat.le_refl _) _).setCell (Nat.le_refl _) _).setCell (Nat.le_refl _) _⟩
    rw [JO.out]
    
end Go.Proofs.YtpkjogenkdckpaaDoor
