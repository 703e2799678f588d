/-
  No statement is proved here: a yarn that is cut, as the program and as the document's own text tell it; condition: the numbers are int16s, the errors lie where the text lays them.
-/
import Derived.Test.YtpkjogenkdckpaaDoorDown
import Derived.Test.YtpkjogenkdckpaaDoorPlies
import Derived.Test.YtpkjogenkdckpaaDoorSummed
import Derived.Test.YtpkjogenkdckpaaDoorYnFrac
import Derived.Deep.RegionWith
import Derived.Deep.DeepCutAuto
namespace Go.Proofs.YtpkjogenkdckpaaDoor
open Go.ChangeShapes Go.WideShapes Go.ChangeAt Go.RowKit

/-- The turns and the grams of the first part. -/
def cutT (a b l : Int) : Int := b * l / a
def cutG (a c l : Int) : Int := c * l / a
def cutOk (a b c l : Int) : Bool := okR l (cutT a b l) (cutG a c l) && okR (a - l) (b - cutT a b l) (c - cutG a c l)
/-- What CutYarn answers. -/
def cutF (a b c l : Int) : Yn × Yn × Int :=
  if okY (a, b, c) = true then (if inB l 1 (a - 1) = true then (if cutOk a b c l = true then ((l, cutT a b l, cutG a c l), (a - l, b - cutT a b l, c - cutG a c l), 0) else ((0, 0, 0), (0, 0, 0), 4)) else ((0, 0, 0), (0, 0, 0), 2)) else ((0, 0, 0), (0, 0, 0), 1)
theorem cutF_1 {a b c l : Int} (h : okY (a, b, c) = false) : cutF a b c l = ((0, 0, 0), (0, 0, 0), 1) := by unfold cutF; rw [h]; rfl
theorem cutF_2 {a b c l : Int} (h : okY (a, b, c) = true) (h2 : inB l 1 (a - 1) = false) : cutF a b c l = ((0, 0, 0), (0, 0, 0), 2) := by unfold cutF; rw [h, h2]; rfl
theorem cutF_4 {a b c l : Int} (h : okY (a, b, c) = true) (h2 : inB l 1 (a - 1) = true) (h3 : cutOk a b c l = false) : cutF a b c l = ((0, 0, 0), (0, 0, 0), 4) := by unfold cutF; rw [h, h2, h3]; rfl
theorem cutF_0 {a b c l : Int} (h : okY (a, b, c) = true) (h2 : inB l 1 (a - 1) = true) (h3 : cutOk a b c l = true) : cutF a b c l = ((l, cutT a b l, cutG a c l), (a - l, b - cutT a b l, c - cutG a c l), 0) := by unfold cutF; rw [h, h2, h3]; rfl
/-- The products and quotients are small. -/
theorem cut_bd {a b c l : Int} (h : okY (a, b, c) = true) (h2 : inB l 1 (a - 1) = true) :
    (-10000000 ≤ b * l ∧ b * l ≤ 10000000) ∧ (0 ≤ c * l ∧ c * l ≤ 10000000) ∧ (-2000 ≤ cutT a b l ∧ cutT a b l ≤ 2000) ∧ (0 ≤ cutG a c l ∧ cutG a c l ≤ 2000) ∧ (c * l).tdiv a = cutG a c l := by
  obtain ⟨⟨k1, k2⟩, ⟨k3, k4⟩, k5, k6⟩ := okY_of h
  obtain ⟨m1, m2⟩ := inB_of h2
  have hla : l ≤ a := by omega
  have x1 : b * l ≤ 2000 * l := Int.mul_le_mul_of_nonneg_right k4 (by omega)
  have x2 : (-2000) * l ≤ b * l := Int.mul_le_mul_of_nonneg_right k3 (by omega)
  have x3 : c * l ≤ 2000 * l := Int.mul_le_mul_of_nonneg_right k6 (by omega)
  have x4 : 0 ≤ c * l := Int.mul_nonneg (by omega) (by omega)
  refine ⟨by omega, by omega, ⟨?_, ?_⟩, ⟨?_, ?_⟩, ?_⟩
  · exact (Int.le_ediv_iff_mul_le (by omega)).2 (by omega)
  · exact Int.lt_add_one_iff.1 ((Int.ediv_lt_iff_lt_mul (by omega)).2 (by omega))
  · exact Int.ediv_nonneg x4 (by omega)
  · exact Int.lt_add_one_iff.1 ((Int.ediv_lt_iff_lt_mul (by omega)).2 (by omega))
  · exact Int.tdiv_eq_ediv_of_nonneg x4

theorem one_yarns {w : World} {b : Nat} {x y z : Int} (h : YBox w b x y z) (h16 : Is16 (x, y, z)) : Yarns w (.slice (some ⟨b, 0, none⟩) 1 1) [(x, y, z)] := by
  refine ⟨fun j => ?_, .inr ⟨b, 0, 1, rfl, by simp, World.block_lt_of_cell? w _ h.1, fun j hj => ?_⟩⟩
  · cases j with
    | zero => exact h16
    | succ j => simp [yat, Is16]
  · obtain rfl : j = 0 := by simp at hj; exact hj
    exact ⟨by simpa [yat] using h.1, by simpa [yat] using h.2.1, by simpa [yat] using h.2.2⟩
theorem allY_one (y : Yn) : allY [y] = okY y := by simp [allY]

set_option maxRecDepth 100000 in
set_option maxHeartbeats 4000000 in
theorem implCut_any (p : Nat → Addr) (a b c l : Int) (w : World) (hs : Sent w p) (h16 : Is16 (a, b, c)) :
    Calls Tryd.prog 17 #[.agg #[.int .i16 a, .int .i16 b, .int .i16 c], .int .i64 l] w fun e w' => e = .returned (.tuple #[.agg #[.int .i16 (cutF a b c l).1.1, .int .i16 (cutF a b c l).1.2.1, .int .i16 (cutF a b c l).1.2.2], .agg #[.int .i16 (cutF a b c l).2.1.1, .int .i16 (cutF a b c l).2.1.2.1, .int .i16 (cutF a b c l).2.1.2.2], .int .i64 (cutF a b c l).2.2]) ∧ Below w.heap.size w w' := by
  have HM := Lib.hid fun wx => measures_any a b c wx h16
  have HS := Lib.hid hs
  have q1 := neqNil_err
  have q2 := neqNil_nil
  clear hs
  have JB := Lib.hid (cutF_1 (a := a) (b := b) (c := c) (l := l))
  have J2 := Lib.hid (cutF_2 (a := a) (b := b) (c := c) (l := l))
  have J4 := Lib.hid (cutF_4 (a := a) (b := b) (c := c) (l := l))
  have J0 := Lib.hid (cutF_0 (a := a) (b := b) (c := c) (l := l))
  have BD := Lib.hid (cut_bd (a := a) (b := b) (c := c) (l := l))
  generalize cutF a b c l = out at *
  go_enter Tryd.func17, Tryd.ntmps17
  go_wp2_with fail
  refine (HM.out _).mono ?_
  rintro e w1 ⟨rfl, hB⟩
  have hY : YBox w1 w.heap.size a b c := YBox.below (w := ((w.alloc _).alloc _).alloc _) ⟨by simp [go_sem], by simp [go_sem], by simp [go_sem]⟩ hB (by simp only [World.size_alloc]; omega)
  have hR1 : YFree w1 (w.heap.size + 1) 0 0 0 := YFree.below (w := ((w.alloc _).alloc _).alloc _) ⟨⟨by simp [go_sem], by simp [go_sem], by simp [go_sem]⟩, by simp [go_sem], by simp [go_sem], by simp [go_sem]⟩ hB (by simp only [World.size_alloc]; omega)
  have hR2 : YFree w1 (w.heap.size + 2) 0 0 0 := YFree.below (w := ((w.alloc _).alloc _).alloc _) ⟨⟨by simp [go_sem], by simp [go_sem], by simp [go_sem]⟩, by simp [go_sem], by simp [go_sem], by simp [go_sem]⟩ hB (by simp)
  have B1 := Lib.hid (((((Below.refl w.heap.size w).alloc (Nat.le_refl _) _).alloc (by simp) _).alloc (by simp only [World.size_alloc]; omega) _).trans (hB.mono (by simp only [World.size_alloc]; omega)))
  have hz1 := hB.size
  simp only [World.size_alloc] at hz1
  have Z1 := Lib.hid (show w.heap.size + 2 < w1.heap.size by omega)
  have hz0 : w.heap.size < w1.heap.size := by omega
  have R1 := Lib.hid hR1
  have R2 := Lib.hid hR2
  have HY := Lib.hid hY
  obtain ⟨y0, y1, y2⟩ := hY
  clear hB hz1 hR1 hR2
  go_wp2_with fail
  have hw : wrap64 (a - 1) = a - 1 := (IntWalk.wrap64_in (a - 1) (by have := h16.1; simp only at this; omega)).trans (by omega)
  rw [hw]
  have H2 := check2_any p (w1.heap.size + 1 + 1) 2 (.slice (some ⟨w1.heap.size + 1, 0, none⟩) 1 1) [(a, b, c)] l 1 (a - 1) (((w1.alloc (.cells #[.int .i64 a, .int .i64 b, .int .i64 c] 76)).alloc (.cells #[.int .i16 a, .int .i16 b, .int .i16 c] 25)).alloc
    (.cells #[.iface 82 (.slice (some ⟨w1.heap.size + 1, 0, none⟩) 1 1), .iface 71 (.agg #[.int .i64 l, .int .i64 1, .int .i64 (a - 1)])] 101))
    (((((HS.out.below B1.out).below ((Below.refl _ _).alloc (Nat.le_refl _) _)).below ((Below.refl _ _).alloc (Nat.le_refl _) _)).below ((Below.refl _ _).alloc (Nat.le_refl _) _)))
    (one_yarns ⟨by simp [go_sem], by simp [go_sem], by simp [go_sem]⟩ h16) (by simp) (by simp [go_sem]) (by simp [go_sem])
  rw [allY_one] at H2
  have M1 : MFree (((w1.alloc (.cells #[.int .i64 a, .int .i64 b, .int .i64 c] 76)).alloc (.cells #[.int .i16 a, .int .i16 b, .int .i16 c] 25)).alloc
    (.cells #[.iface 82 (.slice (some ⟨w1.heap.size + 1, 0, none⟩) 1 1), .iface 71 (.agg #[.int .i64 l, .int .i64 1, .int .i64 (a - 1)])] 101)) w1.heap.size a b c := ⟨⟨by simp [go_sem], by simp [go_sem], by simp [go_sem]⟩, by simp [go_sem], by simp [go_sem], by simp [go_sem]⟩
  have M1 := Lib.hid M1
  refine Calls.mono H2 ?_
  clear H2
  rintro e w2 ⟨rfl, hB⟩
  have B2 := Lib.hid ((((B1.out.alloc B1.out.size _).alloc (by have := B1.out.size; simp only [World.size_alloc]; omega) _).alloc (by have := B1.out.size; simp only [World.size_alloc]; omega) _).trans (hB.mono (by have := B1.out.size; simp only [World.size_alloc]; omega)))
  have R1' := Lib.hid ((((R1.out.below ((Below.refl w1.heap.size w1).alloc (Nat.le_refl _) _) (by have := Z1.out; omega)).below ((Below.refl _ _).alloc (Nat.le_refl _) _) (by have := Z1.out; simp only [World.size_alloc]; omega)).below ((Below.refl _ _).alloc (Nat.le_refl _) _) (by have := Z1.out; simp only [World.size_alloc]; omega)).below hB (by have := Z1.out; simp only [World.size_alloc]; omega))
  have R2' := Lib.hid ((((R2.out.below ((Below.refl w1.heap.size w1).alloc (Nat.le_refl _) _) Z1.out).below ((Below.refl _ _).alloc (Nat.le_refl _) _) (by have := Z1.out; simp only [World.size_alloc]; omega)).below ((Below.refl _ _).alloc (Nat.le_refl _) _) (by have := Z1.out; simp only [World.size_alloc]; omega)).below hB (by have := Z1.out; simp only [World.size_alloc]; omega))
  have M2 := Lib.hid (M1.out.below hB (by simp only [World.size_alloc]; omega))
  have Z2 := Lib.hid (show w1.heap.size + 2 < w2.heap.size by have := hB.size; simp at this; omega)
  clear hB R1 R2 M1 HY y0 y1 y2 HM
  have HC1 := Lib.hid fun wx hx => codeOf_c (p := p) 1 (by omega) (by omega) wx hx
  have HC2 := Lib.hid fun wx hx => codeOf_c (p := p) 2 (by omega) (by omega) wx hx
  cases hok : okY (a, b, c) with
  | false =>
    have JO := Lib.hid (JB.out hok)
    clear JB J2 J4 J0 BD
    have e : asked2 false (inB l 1 (a - 1)) 1 2 = 1 := rfl
    rw [e, errOf_not p (by decide)]
    clear e
    go_wp2_with fail
    refine (HC1.out _ (HS.out.below B2.out)).mono ?_
    rintro e w' ⟨rfl, rfl⟩
    have ht := yfree_set R1'.out 0 0 0
    have hu := yfree_set R2'.out 0 0 0
    obtain ⟨⟨f0, f1, f2⟩, g0, g1, g2⟩ := R1'.out
    obtain ⟨⟨f3, f4, f5⟩, g3, g4, g5⟩ := R2'.out
    go_wp2_with fail
    refine bodyPost_ret (v := .tuple #[.agg #[.int .i16 0, .int .i16 0, .int .i16 0], .agg #[.int .i16 0, .int .i16 0, .int .i16 0], .int .i64 1]) (by simp [results, go_sem, f0, f1, f2, f3, f4, f5, Tryd.f17]) rfl ?_
    refine ⟨?_, ((((((B2.out.setCell (by simp only; omega) _).setCell (by simp only; omega) _).setCell (by simp only; omega) _).setCell (by simp only; omega) _).setCell (by simp only; omega) _).setCell (by simp only; omega) _)⟩
    rw [JO.out]
    
  | true =>
    cases hin : inB l 1 (a - 1) with
    | false =>
      have JO := Lib.hid (J2.out hok hin)
      clear JB J2 J4 J0 BD
      have e : asked2 true false 1 2 = 2 := rfl
      rw [e, errOf_not p (by decide)]
      clear e
      go_wp2_with fail
      refine (HC2.out _ (HS.out.below B2.out)).mono ?_
      rintro e w' ⟨rfl, rfl⟩
      have ht := yfree_set R1'.out 0 0 0
      have hu := yfree_set R2'.out 0 0 0
      obtain ⟨⟨f0, f1, f2⟩, g0, g1, g2⟩ := R1'.out
      obtain ⟨⟨f3, f4, f5⟩, g3, g4, g5⟩ := R2'.out
      go_wp2_with fail
      refine bodyPost_ret (v := .tuple #[.agg #[.int .i16 0, .int .i16 0, .int .i16 0], .agg #[.int .i16 0, .int .i16 0, .int .i16 0], .int .i64 2]) (by simp [results, go_sem, f0, f1, f2, f3, f4, f5, Tryd.f17]) rfl ?_
      refine ⟨?_, ((((((B2.out.setCell (by simp only; omega) _).setCell (by simp only; omega) _).setCell (by simp only; omega) _).setCell (by simp only; omega) _).setCell (by simp only; omega) _).setCell (by simp only; omega) _)⟩
      rw [JO.out]
      
    | true =>
      have e : asked2 true true 1 2 = 0 := rfl
      rw [e, errOf_zero]
      clear e
      obtain ⟨⟨n1, n2⟩, ⟨n3, n4⟩, ⟨n5, n6⟩, ⟨n7, n8⟩, hq⟩ := BD.out hok hin
      obtain ⟨⟨k1, k2⟩, ⟨k3, k4⟩, k5, k6⟩ := okY_of hok
      obtain ⟨l1, l2⟩ := inB_of hin
      have HF := Lib.hid fun wx => floorDiv_any (b * l) a wx (by omega) (by omega)
      rw [show b * l / a = cutT a b l from rfl] at HF
      have KT := Lib.hid fun h => J4.out hok hin h
      have KF := Lib.hid fun h => J0.out hok hin h
      have u1 : IntKind.i64.wrap (b * l) = b * l := (IntWalk.i64_in _ (by omega)).trans (by omega)
      have u2 : wrap64 (b * l) = b * l := (IntWalk.wrap64_in _ (by omega)).trans (by omega)
      have u3 : IntKind.i64.wrap (c * l) = c * l := (IntWalk.i64_in _ (by omega)).trans (by omega)
      have u4 : wrap64 (c * l) = c * l := (IntWalk.wrap64_in _ (by omega)).trans (by omega)
      have u5 : IntKind.i64.wrap ((c * l).tdiv a) = cutG a c l := by rw [hq]; exact (IntWalk.i64_in _ (by omega)).trans (by omega)
      have u6 : wrap64 ((c * l).tdiv a) = cutG a c l := by rw [hq]; exact (IntWalk.wrap64_in _ (by omega)).trans (by omega)
      have u7 : (a == 0) = false := by rw [beq_eq_false_iff_ne]; omega
      have u8 : ¬ a = 0 := by omega
      have u9 : (a = 0) = False := by simp only [u8]
      have hcd : cutOk a b c l = (okR l (cutT a b l) (cutG a c l) && okR (a - l) (b - cutT a b l) (c - cutG a c l)) := rfl
      generalize cutT a b l = T at *
      generalize cutG a c l = G at *
      have v1 : IntKind.i64.wrap (a - l) = a - l := (IntWalk.i64_in _ (by omega)).trans (by omega)
      have v2 : wrap64 (a - l) = a - l := (IntWalk.wrap64_in _ (by omega)).trans (by omega)
      have v3 : IntKind.i64.wrap (b - T) = b - T := (IntWalk.i64_in _ (by omega)).trans (by omega)
      have v4 : wrap64 (b - T) = b - T := (IntWalk.wrap64_in _ (by omega)).trans (by omega)
      have v5 : IntKind.i64.wrap (c - G) = c - G := (IntWalk.i64_in _ (by omega)).trans (by omega)
      have v6 : wrap64 (c - G) = c - G := (IntWalk.wrap64_in _ (by omega)).trans (by omega)
      obtain ⟨l', hl'⟩ : ∃ l', a - l = l' := ⟨_, rfl⟩
      obtain ⟨t', ht'⟩ : ∃ t', b - T = t' := ⟨_, rfl⟩
      obtain ⟨g', hg'⟩ : ∃ g', c - G = g' := ⟨_, rfl⟩
      have ht'b : -9223372036854775807 ≤ t' ∧ t' ≤ 9223372036854775807 := by omega
      rw [hl', ht', hg'] at KF hcd
      have HA1 := Lib.hid fun wx => areRight_any l T G wx (by omega)
      have HA2 := Lib.hid fun wx => areRight_any l' t' g' wx ht'b
      have HL' := Lib.hid hl'
      have HT' := Lib.hid ht'
      have HG' := Lib.hid hg'
      have HCD := Lib.hid hcd
      obtain ⟨⟨m0, m1, m2⟩, _⟩ := M2.out
      clear JB J2 J4 J0 BD hq hcd HC1 HC2 hl' ht' hg' ht'b
      go_wp2_with fail
      have z2 : w1.heap.size < w2.heap.size := by have := Z2.out; omega
      have z3 : ¬ w2.heap.size = w1.heap.size := by omega
      have z4 : ¬ w1.heap.size = w2.heap.size := by omega
      go_cut [9] from 30 (fun c9 wx => c9 = .pointer (some ⟨w2.heap.size, 0, none⟩) ∧ wx = (w2.alloc (.cells #[.int .i64 l, .int .i64 T, .int .i64 G] 76)).drew)
      case first =>
        go_region_held3 (fun w' => w'.cell? ⟨w1.heap.size, 0, none⟩ = some (.int .i64 a) ∧ w'.cell? ⟨w1.heap.size, 1, none⟩ = some (.int .i64 b) ∧ w'.cell? ⟨w1.heap.size, 2, none⟩ = some (.int .i64 c))
          (first | exact ⟨by simp [go_sem, m0, z2], by simp [go_sem, m1, z2], by simp [go_sem, m2, z2]⟩ | assumption)
          (first | (go_at_call 52; refine (HF.out _).mono ?_; rintro e w' ⟨rfl, rfl⟩))
        all_goals
          go_wp2_with fail
          go_meet
          exact ⟨rfl, rfl⟩
      case rest =>
        obtain ⟨rfl, rfl⟩ := hcut
        go_wp2_with fail
        rw [HL'.out, HT'.out, HG'.out]
        have Q1_2 := Lib.hid (show YFree w2 (w.heap.size + 1) 0 0 0 from R1'.out)
        have Q2_2 := Lib.hid (show YFree w2 (w.heap.size + 1 + 1) 0 0 0 from R2'.out)
        have D2 := Lib.hid B2.out
        have Y2 := Lib.hid (show w.heap.size + 2 < w2.heap.size by have := Z2.out; have := Z1.out; omega)
        refine (HA1.out _).mono ?_
        rintro e w3 ⟨rfl, hB⟩
        have hL3 : Below w2.heap.size w2 w3 := ((((Below.refl w2.heap.size w2).alloc (Nat.le_refl _) _).alloc (by simp only [World.size_alloc]; omega) _).drew).trans (hB.mono (by simp only [World.size_alloc, World.size_drew]; omega))
        have E3 := Lib.hid (show MFree w3 w2.heap.size l T G from MFree.below (w := ((w2.alloc _).alloc _).drew) ⟨⟨by simp [go_sem], by simp [go_sem], by simp [go_sem]⟩, by simp [go_sem], by simp [go_sem], by simp [go_sem]⟩ hB (by simp only [World.size_alloc, World.size_drew]; omega))
        have S3 := Lib.hid (show MFree w3 (w2.heap.size + 1) l' t' g' from MFree.below (w := ((w2.alloc _).alloc _).drew) ⟨⟨by simp [go_sem], by simp [go_sem], by simp [go_sem]⟩, by simp [go_sem], by simp [go_sem], by simp [go_sem]⟩ hB (by simp only [World.size_alloc, World.size_drew]; omega))
        have X3 := Lib.hid (show w2.heap.size + 1 < w3.heap.size by have := hB.size; simp only [World.size_alloc, World.size_drew] at this; omega)
        have Q1_3 := Lib.hid (Q1_2.out.below hL3 (by have := Y2.out; omega))
        have Q2_3 := Lib.hid (Q2_2.out.below hL3 (by have := Y2.out; omega))
        have D3 := Lib.hid (D2.out.trans (hL3.mono D2.out.size))
        have Y3 := Lib.hid (show w.heap.size + 2 < w3.heap.size by have := Y2.out; have := hL3.size; omega)
        clear hB hL3 m0 m1 m2 z2 z3 z4
        cases hk1 : okR l T G with
        | false =>
          have JO := Lib.hid (KT.out (by rw [HCD.out, hk1]; rfl))
          obtain ⟨⟨f0, f1, f2⟩, g0, g1, g2⟩ := Q1_3.out
          obtain ⟨⟨f3, f4, f5⟩, g3, g4, g5⟩ := Q2_3.out
          go_wp2_with fail
          refine bodyPost_ret (v := .tuple #[.agg #[.int .i16 0, .int .i16 0, .int .i16 0], .agg #[.int .i16 0, .int .i16 0, .int .i16 0], .int .i64 4]) (by simp [results, go_sem, f0, f1, f2, f3, f4, f5, Tryd.f17]) rfl ?_
          refine ⟨?_, ((((((D3.out.setCell (by simp only; omega) _).setCell (by simp only; omega) _).setCell (by simp only; omega) _).setCell (by simp only; omega) _).setCell (by simp only; omega) _).setCell (by simp only; omega) _)⟩
          rw [JO.out]
        | true =>
          obtain ⟨⟨m3, m4, m5⟩, _⟩ := S3.out
          go_wp2_with fail
          refine (HA2.out _).mono ?_
          rintro e w4 ⟨rfl, hB⟩
          have hL4 : Below w3.heap.size w3 w4 := hB
          have E4 := Lib.hid (E3.out.below hB (by have := X3.out; omega))
          have S4 := Lib.hid (S3.out.below hB X3.out)
          have X4 := Lib.hid (show w2.heap.size + 1 < w4.heap.size by have := hB.size; have := X3.out; omega)
          have Q1_4 := Lib.hid (Q1_3.out.below hL4 (by have := Y3.out; omega))
          have Q2_4 := Lib.hid (Q2_3.out.below hL4 (by have := Y3.out; omega))
          have D4 := Lib.hid (D3.out.trans (hL4.mono D3.out.size))
          have Y4 := Lib.hid (show w.heap.size + 2 < w4.heap.size by have := Y3.out; have := hL4.size; omega)
          clear hB hL4 m3 m4 m5
          cases hk2 : okR l' t' g' with
          | false =>
            have JO := Lib.hid (KT.out (by rw [HCD.out, hk1, hk2]; rfl))
            obtain ⟨⟨f0, f1, f2⟩, g0, g1, g2⟩ := Q1_4.out
            obtain ⟨⟨f3, f4, f5⟩, g3, g4, g5⟩ := Q2_4.out
            go_wp2_with fail
            refine bodyPost_ret (v := .tuple #[.agg #[.int .i16 0, .int .i16 0, .int .i16 0], .agg #[.int .i16 0, .int .i16 0, .int .i16 0], .int .i64 4]) (by simp [results, go_sem, f0, f1, f2, f3, f4, f5, Tryd.f17]) rfl ?_
            refine ⟨?_, ((((((D4.out.setCell (by simp only; omega) _).setCell (by simp only; omega) _).setCell (by simp only; omega) _).setCell (by simp only; omega) _).setCell (by simp only; omega) _).setCell (by simp only; omega) _)⟩
            rw [JO.out]
          | true =>
            have JO := Lib.hid (KF.out (by rw [HCD.out, hk1, hk2]; rfl))
            have HK1 := Lib.hid fun wx => mkYarn_any l T G wx hk1
            have HK2 := Lib.hid fun wx => mkYarn_any l' t' g' wx hk2
            obtain ⟨⟨m0, m1, m2⟩, _⟩ := E4.out
            obtain ⟨⟨m3, m4, m5⟩, _⟩ := S4.out
            go_wp2_with fail
            go_region_with (first | (go_at_call_of 48 (Value.agg #[.int .i64 l, .int .i64 T, .int .i64 G]); refine (HK1.out _).mono ?_; rintro e5 w5 ⟨rfl, hB5⟩; have Q1_5 := Lib.hid (show YFree w5 (w.heap.size + 1) 0 0 0 by refine YFree.below ?_ hB5 ?_; exact Q1_4.out; show _ < w4.heap.size; have := Y4.out; omega); have Q2_5 := Lib.hid (show YFree w5 (w.heap.size + 1 + 1) 0 0 0 by refine YFree.below ?_ hB5 ?_; exact Q2_4.out; show _ < w4.heap.size; have := Y4.out; omega); have D5 := Lib.hid (show Below w.heap.size w w5 by refine Below.trans ?_ (Below.mono hB5 ?_); (first | exact D4.out | exact D4.out.drew); exact D4.out.size); have Y5 := Lib.hid (show w.heap.size + 2 < w5.heap.size by have h1 := Y4.out; have h2 : w4.heap.size ≤ w5.heap.size := hB5.size; omega); have S5 := Lib.hid (show MFree w5 (w2.heap.size + 1) l' t' g' by refine MFree.below ?_ hB5 ?_; exact S4.out; exact X4.out); clear hB5; obtain ⟨⟨m6, m7, m8⟩, _⟩ := S5.out) | (go_at_call_of 48 (Value.agg #[.int .i64 l', .int .i64 t', .int .i64 g']); refine (HK2.out _).mono ?_; rintro e6 w6 ⟨rfl, hB6⟩; have Q1_6 := Lib.hid (show YFree w6 (w.heap.size + 1) 0 0 0 by refine YFree.below ?_ hB6 ?_; exact Q1_5.out; show _ < w5.heap.size; have := Y5.out; omega); have Q2_6 := Lib.hid (show YFree w6 (w.heap.size + 1 + 1) 0 0 0 by refine YFree.below ?_ hB6 ?_; exact Q2_5.out; show _ < w5.heap.size; have := Y5.out; omega); have D6 := Lib.hid (show Below w.heap.size w w6 by refine Below.trans ?_ (Below.mono hB6 ?_); (first | exact D5.out | exact D5.out.drew); exact D5.out.size); have Y6 := Lib.hid (show w.heap.size + 2 < w6.heap.size by have h1 := Y5.out; have h2 : w5.heap.size ≤ w6.heap.size := hB6.size; omega); clear hB6; obtain ⟨⟨f0, f1, f2⟩, g0, g1, g2⟩ := Q1_6.out; obtain ⟨⟨f3, f4, f5⟩, g3, g4, g5⟩ := Q2_6.out))
            all_goals
              go_wp2_with fail
              refine bodyPost_ret (v := .tuple #[.agg #[.int .i16 l, .int .i16 T, .int .i16 G], .agg #[.int .i16 l', .int .i16 t', .int .i16 g'], .int .i64 0]) (by simp [results, go_sem, f0, f1, f2, f3, f4, f5, Tryd.f17]) rfl ?_
              refine ⟨?_, ((((((D6.out.setCell (by simp only; omega) _).setCell (by simp only; omega) _).setCell (by simp only; omega) _).setCell (by simp only; omega) _).setCell (by simp only; omega) _).setCell (by simp only; omega) _)⟩
              rw [JO.out]
end Go.Proofs.YtpkjogenkdckpaaDoor
