/-
  No statement is proved here: yarns that are joined by knots, as the program and as the document's own text tell it; condition: the errors lie where the text lays them; at most 1048576 yarns.
-/
import Derived.Test.YtpkjogenkdckpaaDoorPlies
import Derived.Test.YtpkjogenkdckpaaDoorSummed
namespace Go.Proofs.YtpkjogenkdckpaaDoor
open Go.ChangeShapes Go.WideShapes Go.ChangeAt Go.RowKit

/-- The length of yarns that are joined by knots. -/
def tied (ys : List Yn) (k : Int) : Int := sm longY ys ys.length + (k - k * (ys.length : Int))
/-- What JoinYarns answers. -/
def joinF (ys : List Yn) (k : Int) : Yn × Int :=
  if askedF ys (inB k 0 20) = 0 then
    (if ys.length = 0 then ((0, 0, 0), 6) else
      (if okR (tied ys k) (sm twistY ys ys.length) (sm gramsY ys ys.length) = true then ((tied ys k, sm twistY ys ys.length, sm gramsY ys ys.length), 0) else ((0, 0, 0), 4)))
  else ((0, 0, 0), askedF ys (inB k 0 20))
theorem joinF_no {ys : List Yn} {k : Int} (h : ¬ askedF ys (inB k 0 20) = 0) : joinF ys k = ((0, 0, 0), askedF ys (inB k 0 20)) := by unfold joinF; rw [if_neg h]
theorem joinF_none {ys : List Yn} {k : Int} (h : askedF ys (inB k 0 20) = 0) (h0 : ys.length = 0) : joinF ys k = ((0, 0, 0), 6) := by unfold joinF; rw [if_pos h, if_pos h0]
theorem joinF_yes {ys : List Yn} {k : Int} (h : askedF ys (inB k 0 20) = 0) (h0 : ¬ ys.length = 0) (h1 : okR (tied ys k) (sm twistY ys ys.length) (sm gramsY ys ys.length) = true) :
    joinF ys k = ((tied ys k, sm twistY ys ys.length, sm gramsY ys ys.length), 0) := by unfold joinF; rw [if_pos h, if_neg h0, if_pos h1]
theorem joinF_bad {ys : List Yn} {k : Int} (h : askedF ys (inB k 0 20) = 0) (h0 : ¬ ys.length = 0) (h1 : okR (tied ys k) (sm twistY ys ys.length) (sm gramsY ys ys.length) = false) :
    joinF ys k = ((0, 0, 0), 4) := by unfold joinF; rw [if_pos h, if_neg h0, if_neg (by rw [h1]; simp)]

theorem l03Knot_any (k : Int) (w : World) : Calls Tryd.prog 54 #[.int .i64 k] w fun e w' => e = .returned (.bool (inB k 0 20)) ∧ w = w' := by
  have H1 := Lib.hid fun wx => in_any k 0 20 wx
  generalize inB k 0 20 = r at *
  go_enter Tryd.func54, Tryd.ntmps54
  go_wp2_with fail
  refine (H1.out _).mono ?_
  rintro e w' ⟨rfl, rfl⟩
  go_wp2
  go_ret
  exact ⟨rfl, rfl⟩

set_option maxRecDepth 100000 in
set_option maxHeartbeats 4000000 in
theorem specJoin_any (v : Value) (ys : List Yn) (kn : Int) (w : World) (h : Yarns w v ys) (hn : ys.length ≤ 1048576) :
    Calls Tryd.prog 19 #[v, .int .i64 kn] w fun e w' => e = .returned (.tuple #[.agg #[.int .i16 (joinF ys kn).1.1, .int .i16 (joinF ys kn).1.2.1, .int .i16 (joinF ys kn).1.2.2], .int .i64 (joinF ys kn).2]) ∧ Below w.heap.size w w' := by
  have H1 := Lib.hid fun wx => l03Knot_any kn wx
  have H2 := Lib.hid fun wx hx => l03Asked_any v ys (inB kn 0 20) wx hx hn
  have HY := Lib.hid h
  by_cases hc : askedF ys (inB kn 0 20) = 0
  · by_cases h0 : ys.length = 0
    · rw [joinF_none hc h0]
      rw [hc] at H2
      clear hc
      generalize inB kn 0 20 = r at *
      have hx : ys = [] := List.length_eq_zero_iff.1 h0
      subst hx
      obtain ⟨a, cap, rfl⟩ := h.nil
      clear h
      go_enter Tryd.func19, Tryd.ntmps19
      go_wp2_with fail
      refine (H1.out _).mono ?_
      rintro e w' ⟨rfl, rfl⟩
      go_wp2_with fail
      refine (H2.out _ (HY.out.below ((Below.refl _ _).alloc (Nat.le_refl _) _))).mono ?_
      rintro e w1 ⟨rfl, hB⟩
      have B1 := Lib.hid (((Below.refl w.heap.size w).alloc (Nat.le_refl _) _).trans (hB.mono (by simp)))
      have R1 := Lib.hid ((yfree_new w).below hB (by simp))
      have z1 : w.heap.size < w1.heap.size := by have := hB.size; simp at this; omega
      have Z1 := Lib.hid z1
      clear hB z1
      have ht := yfree_set R1.out 0 0 0
      obtain ⟨⟨f0, f1, f2⟩, g0, g1, g2⟩ := R1.out
      go_wp2_with fail
      refine bodyPost_ret (v := .tuple #[.agg #[.int .i16 0, .int .i16 0, .int .i16 0], .int .i64 6]) (by simp [results, go_sem, ht.1, ht.2.1, ht.2.2, Tryd.f19]) rfl ?_
      exact ⟨rfl, ((B1.out.setCell (Nat.le_refl _) _).setCell (Nat.le_refl _) _).setCell (Nat.le_refl _) _⟩
      
    · have hkn := inB_of (askedF_zero hc).2.1
      have hlen := (askedF_zero hc).2.2
      obtain ⟨b, off, cap, rfl, hb, hcells⟩ := h.pos (by omega)
      have H16 := Lib.hid h.1
      have S1 := Lib.hid (sm_step longY ys)
      have S2 := Lib.hid (sm_step twistY ys)
      have S3 := Lib.hid (sm_step gramsY ys)
      have D1 := Lib.hid (sm_bd (f := longY) (ys := ys) fun j => (h.1 j).1)
      have D2 := Lib.hid (sm_bd (f := twistY) (ys := ys) fun j => (h.1 j).2.1)
      have D3 := Lib.hid (sm_bd (f := gramsY) (ys := ys) fun j => (h.1 j).2.2)
      rw [hc] at H2
      have JY := Lib.hid (fun h1 => joinF_yes hc h0 h1)
      have JN := Lib.hid (fun h1 => joinF_bad hc h0 h1)
      have HT := Lib.hid (show tied ys kn = sm longY ys ys.length + (kn - kn * (ys.length : Int)) from rfl)
      generalize joinF ys kn = out at *
      obtain ⟨L, hLe⟩ : ∃ L, L = tied ys kn := ⟨_, rfl⟩
      obtain ⟨T, hTe⟩ : ∃ T, T = sm twistY ys ys.length := ⟨_, rfl⟩
      obtain ⟨G, hGe⟩ : ∃ G, G = sm gramsY ys ys.length := ⟨_, rfl⟩
      rw [← hLe, ← hTe, ← hGe] at JY JN
      rw [← hLe] at HT
      have HTE := Lib.hid hTe
      have HGE := Lib.hid hGe
      have HM := Lib.hid fun wx => l03Make_any L T G wx
      generalize inB kn 0 20 = r at *
      obtain ⟨n, hln⟩ : ∃ n, n = ys.length := ⟨_, rfl⟩
      rw [← hln] at S1 S2 S3 D1 D2 D3 HT HTE HGE hcells hn h0 hlen H2 HY ⊢
      obtain ⟨kk, hkk⟩ : ∃ kk : Int, kk = kn * (n : Int) := ⟨_, rfl⟩
      have hkkb : 0 ≤ kk ∧ kk ≤ 200 := by
        have h1 : (n : Int) ≤ 10 := by omega
        have h2 : (0 : Int) ≤ n := by omega
        refine ⟨by rw [hkk]; exact Int.mul_nonneg hkn.1 h2, ?_⟩
        have := Int.mul_le_mul hkn.2 h1 h2 (by decide)
        omega
      have HKK := Lib.hid hkk
      rw [← hkk] at HT
      have hnb : (n : Int) ≤ 10 := by omega
      have HC := Lib.hid hcells
      obtain ⟨kn1, kn2⟩ := hkn
      obtain ⟨kk1, kk2⟩ := hkkb
      have hk1 : IntKind.i64.wrap (kn * (n : Int)) = kk := by rw [← hkk]; exact (IntWalk.i64_in kk (by omega)).trans (by omega)
      have hk2 : wrap64 (kn * (n : Int)) = kk := by rw [← hkk]; exact (IntWalk.wrap64_in kk (by omega)).trans (by omega)
      clear hcells hln h hc hTe hGe hkk hLe
      go_enter Tryd.func19, Tryd.ntmps19
      go_wp2_with fail
      refine (H1.out _).mono ?_
      rintro e w' ⟨rfl, rfl⟩
      go_wp2_with fail
      refine (H2.out _ (HY.out.below ((Below.refl _ _).alloc (Nat.le_refl _) _))).mono ?_
      rintro e w1 ⟨rfl, hB⟩
      have B1 := Lib.hid (((Below.refl w.heap.size w).alloc (Nat.le_refl _) _).trans (hB.mono (by simp)))
      have R1 := Lib.hid ((yfree_new w).below hB (by simp))
      have z1 : w.heap.size < w1.heap.size := by have := hB.size; simp at this; omega
      have Z1 := Lib.hid z1
      clear hB z1
      go_wp2_with fail
      go_loop [7, 8, 9, 10] (fun l t g i => ∃ (k : Nat) (q1 q2 q3 : Int), k ≤ n ∧ i = .int .i64 k ∧ l = .int .i64 q1 ∧ t = .int .i64 q2 ∧ g = .int .i64 q3 ∧ Hid (q1 = sm longY ys k + (kn - kk) ∧ q2 = sm twistY ys k ∧ q3 = sm gramsY ys k)) (fun _ _ _ i => n - (intOf i).toNat)
      case atStart => exact ⟨0, kn - kk, 0, 0, Nat.zero_le _, rfl, rfl, rfl, rfl, Lib.hid ⟨by simp [sm], rfl, rfl⟩⟩
      case round =>
        obtain ⟨k, q1, q2, q3, hk, rfl, rfl, rfl, rfl, hq⟩ := hrel
        by_cases hlt : k < n
        · obtain ⟨p1, p2, p3⟩ := HC.out k hlt
          have u3 := H16.out k
          have b1 := D1.out k hk
          have b2 := D2.out k hk
          have b3 := D3.out k hk
          have E1 := Lib.hid (S1.out k hlt)
          have E2 := Lib.hid (S2.out k hlt)
          have E3 := Lib.hid (S3.out k hlt)
          obtain ⟨c1, hc1⟩ : ∃ c1, c1 = sm longY ys k := ⟨_, rfl⟩
          have hq1 := hq.out.1
          rw [← hc1] at b1 E1 hq1
          rw [← hq.out.2.1] at b2 E2
          rw [← hq.out.2.2] at b3 E3
          obtain ⟨y, hy⟩ : ∃ y, y = yat ys k := ⟨_, rfl⟩
          rw [← hy] at p1 p2 p3 u3 E1 E2 E3
          clear hy hq hc1
          obtain ⟨y0, y1, y2⟩ := y
          simp only [longY, twistY, gramsY] at p1 p2 p3 E1 E2 E3
          have d1 := (B1.out.cell (p := ⟨b, off + k * 3, none⟩) hb).trans p1
          have d2 := (B1.out.cell (p := ⟨b, off + k * 3 + 1, none⟩) hb).trans p2
          have d3 := (B1.out.cell (p := ⟨b, off + k * 3 + 2, none⟩) hb).trans p3
          obtain ⟨⟨r1, r2⟩, ⟨r3, r4⟩, r5, r6⟩ := u3
          simp only at r1 r2 r3 r4 r5 r6
          clear p1 p2 p3
          have HQ1 := Lib.hid hq1
          have hb1 : -400000 ≤ q1 ∧ q1 ≤ 400000 := by omega
          obtain ⟨m1, m2⟩ := hb1
          clear hq1 b1
          go_wp2_with fail
          go_round
          case rel => exact ⟨k + 1, q1 + y0, q2 + y1, q3 + y2, by omega, by go_num, rfl, rfl, rfl, Lib.hid ⟨by rw [E1.out, HQ1.out]; omega, E2.out.symm, E3.out.symm⟩⟩
          case measure => simp [intOf]; omega
        · have hkn : k = n := by omega
          subst hkn
          obtain rfl : L = q1 := by rw [HT.out, hq.out.1]
          obtain rfl : T = q2 := by rw [HTE.out, hq.out.2.1]
          obtain rfl : G = q3 := by rw [HGE.out, hq.out.2.2]
          clear hq HT HTE HGE
          cases hok : okR L T G with
          | false =>
            have JO := Lib.hid (JN.out hok)
            rw [mkY_no hok, hok] at HM
            clear JY JN hok
            go_wp2_with fail
            refine (HM.out _).mono ?_
            rintro e w2 ⟨rfl, hB⟩
            have B2 := Lib.hid (B1.out.trans (hB.mono B1.out.size))
            have Z2 := Lib.hid (Nat.lt_of_lt_of_le Z1.out hB.size)
            have R2 := Lib.hid (R1.out.below hB Z1.out)
            have z2 := Z2.out
            clear hB
            have ht := yfree_set R2.out 0 0 0
            obtain ⟨⟨f0, f1, f2⟩, g0, g1, g2⟩ := R2.out
            go_wp2_with fail
            refine bodyPost_ret (v := .tuple #[.agg #[.int .i16 0, .int .i16 0, .int .i16 0], .int .i64 4]) (by simp [results, go_sem, ht.1, ht.2.1, ht.2.2, z2, Tryd.f19]) rfl ?_
            refine ⟨?_, (((B2.out.setCell (Nat.le_refl _) _).setCell (Nat.le_refl _) _).setCell (Nat.le_refl _) _).alloc (by simp only [World.size_setCell]; exact B2.out.size) _⟩
            rw [JO.out]
          | true =>
            have JO := Lib.hid (JY.out hok)
            rw [mkY_yes hok, hok] at HM
            clear JY JN hok
            go_wp2_with fail
            refine (HM.out _).mono ?_
            rintro e w2 ⟨rfl, hB⟩
            have B2 := Lib.hid (B1.out.trans (hB.mono B1.out.size))
            have Z2 := Lib.hid (Nat.lt_of_lt_of_le Z1.out hB.size)
            have R2 := Lib.hid (R1.out.below hB Z1.out)
            have z2 := Z2.out
            clear hB
            have ht := yfree_set R2.out L T G
            obtain ⟨⟨f0, f1, f2⟩, g0, g1, g2⟩ := R2.out
            go_wp2_with fail
            refine bodyPost_ret (v := .tuple #[.agg #[.int .i16 L, .int .i16 T, .int .i16 G], .int .i64 0]) (by simp [results, go_sem, ht.1, ht.2.1, ht.2.2, z2, Tryd.f19]) rfl ?_
            refine ⟨?_, (((B2.out.setCell (Nat.le_refl _) _).setCell (Nat.le_refl _) _).setCell (Nat.le_refl _) _).alloc (by simp only [World.size_setCell]; exact B2.out.size) _⟩
            rw [JO.out]
  · rw [joinF_no hc]
    generalize askedF ys (inB kn 0 20) = c at *
    generalize inB kn 0 20 = r at *
    have hcb : (c == 0) = false := by simp [hc]
    have hcn : (c != 0) = true := by simp [hc]
    clear h
    go_enter Tryd.func19, Tryd.ntmps19
    go_wp2_with fail
    refine (H1.out _).mono ?_
    rintro e w' ⟨rfl, rfl⟩
    go_wp2_with fail
    refine (H2.out _ (HY.out.below ((Below.refl _ _).alloc (Nat.le_refl _) _))).mono ?_
    rintro e w1 ⟨rfl, hB⟩
    have B1 := Lib.hid (((Below.refl w.heap.size w).alloc (Nat.le_refl _) _).trans (hB.mono (by simp)))
    have R1 := Lib.hid ((yfree_new w).below hB (by simp))
    have z1 : w.heap.size < w1.heap.size := by have := hB.size; simp at this; omega
    have Z1 := Lib.hid z1
    clear hB z1
    have ht := yfree_set R1.out 0 0 0
    obtain ⟨⟨f0, f1, f2⟩, g0, g1, g2⟩ := R1.out
    go_wp2_with fail
    refine bodyPost_ret (v := .tuple #[.agg #[.int .i16 0, .int .i16 0, .int .i16 0], .int .i64 c]) (by simp [results, go_sem, ht.1, ht.2.1, ht.2.2, Tryd.f19]) rfl ?_
    exact ⟨rfl, ((B1.out.setCell (Nat.le_refl _) _).setCell (Nat.le_refl _) _).setCell (Nat.le_refl _) _⟩
end Go.Proofs.YtpkjogenkdckpaaDoor
