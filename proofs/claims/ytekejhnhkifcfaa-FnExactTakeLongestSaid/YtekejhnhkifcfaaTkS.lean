/-
  No statement is proved here: TakeLongest in the document's own text; condition: numbers that are int32s.
-/
import Derived.Test.YtekejhnhkifcfaaTkM
import Derived.IntWalk
namespace Go.Proofs.Ytekejhnhkifcfaa
open Go.RowKit

abbrev h32 (h : Nat → Int) : Value := .agg #[.int .i32 (h 0), .int .i32 (h 1), .int .i32 (h 2), .int .i32 (h 3), .int .i32 (h 4), .int .i32 (h 5), .int .i32 (h 6), .int .i32 (h 7)]
theorem HeapAt.zero (w : World) (T : TypeId) : HeapAt (w.alloc (.cells #[.int .i32 0, .int .i32 0, .int .i32 0, .int .i32 0, .int .i32 0, .int .i32 0, .int .i32 0, .int .i32 0] T)) w.heap.size 0 zeroH := by
  have := heapAt_alloc w 0 0 0 0 0 0 0 0 T
  intro k hk
  have h := this k hk
  have e : z8 0 0 0 0 0 0 0 0 k = zeroH k := by
    unfold z8 zeroH
    split <;> rfl
  rw [e] at h
  exact h
/-- The boxes: the argument's, the answers', and what is taken. -/
def TA (w W : World) (z : Nat → Int) : Prop := HeapAt W w.heap.size 0 z ∧ (HeapAt W (w.heap.size + 1) 0 zeroH ∧ HeapAt W (w.heap.size + 2) 0 zeroH) ∧ (∀ b o : Nat, w.heap.size ≤ b → b ≤ w.heap.size + 2 → W.frozen? ⟨b, o, none⟩ = false) ∧ Below w.heap.size w W ∧ W.heap.size = w.heap.size + 3
def TB (w W : World) (zl zt : Nat → Int) : Prop := HeapAt W w.heap.size 0 zl ∧ HeapAt W (w.heap.size + 3) 0 zt ∧ (HeapAt W (w.heap.size + 1) 0 zeroH ∧ HeapAt W (w.heap.size + 2) 0 zeroH) ∧ (∀ b o : Nat, w.heap.size ≤ b → b ≤ w.heap.size + 3 → W.frozen? ⟨b, o, none⟩ = false) ∧ Below w.heap.size w W
theorem TA.made (w : World) (x0 x1 x2 x3 x4 x5 x6 x7 : Int) (T U V : TypeId) : TA w (((w.alloc (.cells #[.int .i32 x0, .int .i32 x1, .int .i32 x2, .int .i32 x3, .int .i32 x4, .int .i32 x5, .int .i32 x6, .int .i32 x7] T)).alloc (.cells #[.int .i32 0, .int .i32 0, .int .i32 0, .int .i32 0, .int .i32 0, .int .i32 0, .int .i32 0, .int .i32 0] U)).alloc (.cells #[.int .i32 0, .int .i32 0, .int .i32 0, .int .i32 0, .int .i32 0, .int .i32 0, .int .i32 0, .int .i32 0] V)) (z8 x0 x1 x2 x3 x4 x5 x6 x7) := by
  have e1 := HeapAt.zero (w.alloc (.cells #[.int .i32 x0, .int .i32 x1, .int .i32 x2, .int .i32 x3, .int .i32 x4, .int .i32 x5, .int .i32 x6, .int .i32 x7] T)) U
  have e2 := HeapAt.zero ((w.alloc (.cells #[.int .i32 x0, .int .i32 x1, .int .i32 x2, .int .i32 x3, .int .i32 x4, .int .i32 x5, .int .i32 x6, .int .i32 x7] T)).alloc (.cells #[.int .i32 0, .int .i32 0, .int .i32 0, .int .i32 0, .int .i32 0, .int .i32 0, .int .i32 0, .int .i32 0] U)) V
  rw [World.size_alloc] at e1
  rw [World.size_alloc, World.size_alloc] at e2
  refine ⟨(heapAt_alloc w x0 x1 x2 x3 x4 x5 x6 x7 T).below (((Below.refl (w.heap.size + 1) _).alloc (by simp) _).alloc (by simp) _) (by omega), ⟨e1.below ((Below.refl (w.heap.size + 2) _).alloc (by simp) _) (by omega), e2⟩, fun b o h1 h2 => ?_, by go_grown, by simp⟩
  have : b = w.heap.size ∨ b = w.heap.size + 1 ∨ b = w.heap.size + 2 := by omega
  rcases this with rfl | rfl | rfl <;> simp [go_sem]
theorem TB.of {w W : World} {z zl zt : Nat → Int} (H : TA w W z) (T : TypeId) (e : ∀ k, k < 8 → zl k = z k) (e2 : ∀ k, k < 8 → zt k = 0) : TB w (W.alloc (.cells #[.int .i32 0, .int .i32 0, .int .i32 0, .int .i32 0, .int .i32 0, .int .i32 0, .int .i32 0, .int .i32 0] T)) zl zt := by
  obtain ⟨h0, ⟨h1, h2⟩, hf, hB, hs⟩ := H
  have A : Below W.heap.size W (W.alloc (.cells #[.int .i32 0, .int .i32 0, .int .i32 0, .int .i32 0, .int .i32 0, .int .i32 0, .int .i32 0, .int .i32 0] T)) := (Below.refl _ _).alloc (Nat.le_refl _) _
  have hn := HeapAt.zero W T
  rw [hs] at hn
  refine ⟨fun k hk => ?_, fun k hk => ?_, ⟨h1.below A h1.lt, h2.below A h2.lt⟩, fun b o hb1 hb2 => ?_, hB.trans (A.mono hB.size)⟩
  · rw [e k hk]; exact h0.below A h0.lt k hk
  · rw [e2 k hk]; exact hn k hk
  · by_cases hb : b = w.heap.size + 3
    · subst hb
      rw [← hs]
      simp [go_sem]
    · exact (A.frozen (p := ⟨b, o, none⟩) (by show b < _; omega)).trans (hf b o hb1 (by omega))
theorem TB.putT {w W : World} {zl zt zt' : Nat → Int} (H : TB w W zl zt) {i : Nat} (hi : i < 8) (e : ∀ k, k < 8 → k ≠ i → zt k = zt' k) {v : Int} (hv : v = zt' i) : TB w (W.setCell ⟨w.heap.size + 3, i, none⟩ (.int .i32 v)) zl zt' := by
  subst hv
  exact ⟨H.1.other (by omega) _, H.2.1.set1 hi e, ⟨H.2.2.1.1.other (by omega) _, H.2.2.1.2.other (by omega) _⟩, fun b o h1 h2 => (by simpa using H.2.2.2.1 b o h1 h2), H.2.2.2.2.setCell (by show _ ≤ _ + 3; omega) _⟩
theorem TB.putL {w W : World} {zl zt zl' : Nat → Int} (H : TB w W zl zt) {i : Nat} (hi : i < 8) (e : ∀ k, k < 8 → k ≠ i → zl k = zl' k) {v : Int} (hv : v = zl' i) : TB w (W.setCell ⟨w.heap.size, i, none⟩ (.int .i32 v)) zl' zt := by
  subst hv
  exact ⟨H.1.set1 hi e, H.2.1.other (by omega) _, ⟨H.2.2.1.1.other (by omega) _, H.2.2.1.2.other (by omega) _⟩, fun b o h1 h2 => (by simpa using H.2.2.2.1 b o h1 h2), H.2.2.2.2.setCell (Nat.le_refl _) _⟩
theorem HeapAt.at0 {W : World} {b : Nat} {z : Nat → Int} (H : HeapAt W b 0 z) {k : Nat} (hk : k < 8) : W.cell? ⟨b, k, none⟩ = some (.int .i32 (z k)) := by
  have := H k hk
  rwa [Nat.zero_add] at this
theorem lMin_any (a b : Int) (w : World) :
    Calls Try.prog 40 #[.int .i64 a, .int .i64 b] w fun e w' => e = .returned (.int .i64 (min a b)) ∧ w = w' := by
  by_cases h : a < b
  · go_enter Try.func40, Try.ntmps40
    go_wp2
    go_ret
    exact ⟨ret_int (by omega), rfl⟩
  · go_enter Try.func40, Try.ntmps40
    go_wp2
    go_ret
    exact ⟨ret_int (by omega), rfl⟩

set_option maxRecDepth 100000 in
set_option maxHeartbeats 4000000 in
theorem specTake_any (x0 x1 x2 x3 x4 x5 x6 x7 g : Int) (w : World) (hz : bd32 (z8 x0 x1 x2 x3 x4 x5 x6 x7)) :
    Calls Try.prog 19 #[.agg #[.int .i32 x0, .int .i32 x1, .int .i32 x2, .int .i32 x3, .int .i32 x4, .int .i32 x5, .int .i32 x6, .int .i32 x7], .int .i64 g] w fun e w' => e = .returned (.tuple #[h32 (takeF (z8 x0 x1 x2 x3 x4 x5 x6 x7) g).1, h32 (takeF (z8 x0 x1 x2 x3 x4 x5 x6 x7) g).2.1, .int .i64 (takeF (z8 x0 x1 x2 x3 x4 x5 x6 x7) g).2.2]) ∧ Below w.heap.size w w' := by
  have K0 := Lib.hid (TA.made w x0 x1 x2 x3 x4 x5 x6 x7 23 23 23)
  obtain ⟨W0, hW0⟩ : ∃ W0, W0 = ((w.alloc (.cells #[.int .i32 x0, .int .i32 x1, .int .i32 x2, .int .i32 x3, .int .i32 x4, .int .i32 x5, .int .i32 x6, .int .i32 x7] 23)).alloc (.cells #[.int .i32 0, .int .i32 0, .int .i32 0, .int .i32 0, .int .i32 0, .int .i32 0, .int .i32 0, .int .i32 0] 23)).alloc (.cells #[.int .i32 0, .int .i32 0, .int .i32 0, .int .i32 0, .int .i32 0, .int .i32 0, .int .i32 0, .int .i32 0] 23) := ⟨_, rfl⟩
  rw [← hW0] at K0
  have HW0 := Lib.hid hW0
  clear hW0
  have HA := Lib.hid fun b => asked_any (z8 x0 x1 x2 x3 x4 x5 x6 x7) w.heap.size 0 b W0 K0.out.1 hz
  have HG := Lib.hid (l01Grams_any (z8 x0 x1 x2 x3 x4 x5 x6 x7) w.heap.size 0 W0 K0.out.1 hz)
  generalize (z8 x0 x1 x2 x3 x4 x5 x6 x7) = z at *
  clear hz
  cases hok : okH z with
  | false =>
    have hqe := Lib.hid (takeF_bad (g := g) hok)
    have T2 := Lib.hid K0.out.2.2.2.1
    have r0 : W0.cell? ⟨w.heap.size + 1, 0, none⟩ = some (.int .i32 0) := K0.out.2.1.1.at0 (by omega)
    have q0 : W0.cell? ⟨w.heap.size + 2, 0, none⟩ = some (.int .i32 0) := K0.out.2.1.2.at0 (by omega)
    have s0 := setCell_id r0
    have t0 := setCell_id q0
    have r1 : W0.cell? ⟨w.heap.size + 1, 1, none⟩ = some (.int .i32 0) := K0.out.2.1.1.at0 (by omega)
    have q1 : W0.cell? ⟨w.heap.size + 2, 1, none⟩ = some (.int .i32 0) := K0.out.2.1.2.at0 (by omega)
    have s1 := setCell_id r1
    have t1 := setCell_id q1
    have r2 : W0.cell? ⟨w.heap.size + 1, 2, none⟩ = some (.int .i32 0) := K0.out.2.1.1.at0 (by omega)
    have q2 : W0.cell? ⟨w.heap.size + 2, 2, none⟩ = some (.int .i32 0) := K0.out.2.1.2.at0 (by omega)
    have s2 := setCell_id r2
    have t2 := setCell_id q2
    have r3 : W0.cell? ⟨w.heap.size + 1, 3, none⟩ = some (.int .i32 0) := K0.out.2.1.1.at0 (by omega)
    have q3 : W0.cell? ⟨w.heap.size + 2, 3, none⟩ = some (.int .i32 0) := K0.out.2.1.2.at0 (by omega)
    have s3 := setCell_id r3
    have t3 := setCell_id q3
    have r4 : W0.cell? ⟨w.heap.size + 1, 4, none⟩ = some (.int .i32 0) := K0.out.2.1.1.at0 (by omega)
    have q4 : W0.cell? ⟨w.heap.size + 2, 4, none⟩ = some (.int .i32 0) := K0.out.2.1.2.at0 (by omega)
    have s4 := setCell_id r4
    have t4 := setCell_id q4
    have r5 : W0.cell? ⟨w.heap.size + 1, 5, none⟩ = some (.int .i32 0) := K0.out.2.1.1.at0 (by omega)
    have q5 : W0.cell? ⟨w.heap.size + 2, 5, none⟩ = some (.int .i32 0) := K0.out.2.1.2.at0 (by omega)
    have s5 := setCell_id r5
    have t5 := setCell_id q5
    have r6 : W0.cell? ⟨w.heap.size + 1, 6, none⟩ = some (.int .i32 0) := K0.out.2.1.1.at0 (by omega)
    have q6 : W0.cell? ⟨w.heap.size + 2, 6, none⟩ = some (.int .i32 0) := K0.out.2.1.2.at0 (by omega)
    have s6 := setCell_id r6
    have t6 := setCell_id q6
    have r7 : W0.cell? ⟨w.heap.size + 1, 7, none⟩ = some (.int .i32 0) := K0.out.2.1.1.at0 (by omega)
    have q7 : W0.cell? ⟨w.heap.size + 2, 7, none⟩ = some (.int .i32 0) := K0.out.2.1.2.at0 (by omega)
    have s7 := setCell_id r7
    have t7 := setCell_id q7
    have fz1 : ∀ o : Nat, W0.frozen? ⟨w.heap.size + 1, o, none⟩ = false := fun o => K0.out.2.2.1 _ o (by omega) (by omega)
    have fz2 : ∀ o : Nat, W0.frozen? ⟨w.heap.size + 2, o, none⟩ = false := fun o => K0.out.2.2.1 _ o (by omega) (by omega)
    rw [hok] at HA
    simp only [askC, Bool.false_eq_true, if_false] at HA
    clear hok
    go_enter Try.func19, Try.ntmps19
    go_wp2_with fail
    rw [← HW0.out]
    refine (HA.out _).mono ?_
    rintro e w1 ⟨rfl, rfl⟩

    go_wp2
    refine bodyPost_ret (by simp [results, Try.results19, go_sem, r0, r1, r2, r3, r4, r5, r6, r7, q0, q1, q2, q3, q4, q5, q6, q7]; try rfl) rfl ?_
    rw [hqe.out]
    exact ⟨rfl, T2.out⟩
  | true =>
    by_cases hg : 0 ≤ g
    · by_cases hs : g ≤ sumTo z 8
      · skip
        have hgd : decide (0 ≤ g) = true := decide_eq_true hg
        have hqe := Lib.hid (takeF_yes hok hg hs)
        have HOK := Lib.hid fun k (hk : k < 8) => okH_of hok k hk
        have HRB := Lib.hid fun k hk => remT_bd hok hg k hk
        have HST := Lib.hid (remT_step z g)
        have hs8 := sum8k hok
        have B0 := Lib.hid (TB.of (zl := lft z g 0) (zt := tkn z g 0) K0.out 23 (fun k hk => lft_zero z g hk) (fun k hk => tkn_zero z g hk))
        have HSZ := Lib.hid K0.out.2.2.2.2
        have HO := Lib.hid hok
        rw [hok] at HA
        clear hok
        go_enter Try.func19, Try.ntmps19
        go_wp2_with fail
        rw [← HW0.out]
        refine (HA.out _).mono ?_
        rintro e w1 ⟨rfl, rfl⟩
        simp only [askC, if_true]
        go_wp2_with fail
        refine HG.out.mono ?_
        rintro e w1 ⟨rfl, rfl⟩
        generalize sumTo z 8 = sm at *
        go_wp2_with fail
        rw [HSZ.out]
        go_loopw [1, 9, 10] (fun v i u wr => ∃ k : Nat, k ≤ 8 ∧ i = .int .i64 (7 - (k : Int)) ∧ v = .int .i64 (remT z g k) ∧ Hid (TB w wr (lft z g k) (tkn z g k))) (fun _ i _ _ => (intOf i + 1).toNat)
        case atStart => exact ⟨0, by omega, rfl, rfl, B0⟩
        case round =>
          clear B0
          obtain ⟨k, hk, rfl, rfl, hT⟩ := hrel
          by_cases hlt : k < 8
          · obtain ⟨m, hm⟩ : ∃ m, m = 7 - k := ⟨_, rfl⟩
            have hmI : (7 : Int) - (k : Int) = (m : Int) := by omega
            have c0 := hT.out.1.at0 (k := m) (by omega)
            have c1 := hT.out.2.1.at0 (k := m) (by omega)
            have f0 : ∀ o : Nat, wr.frozen? ⟨w.heap.size, o, none⟩ = false := fun o => hT.out.2.2.2.1 _ o (by omega) (by omega)
            have f1 : ∀ o : Nat, wr.frozen? ⟨w.heap.size + 3, o, none⟩ = false := fun o => hT.out.2.2.2.1 _ o (by omega) (by omega)
            have hzb := HOK.out m (by omega)
            have hrb := HRB.out k hk
            have hst := HST.out k
            have hn := tkn_new z g hlt
            have ho := lft_old z g hlt
            have hn2 := lft_new z g hlt
            have ho1 := tkn_old z g hlt
            have HE1 := Lib.hid fun j hj hne => tkn_other z g hlt (j := j) hj hne
            have HE2 := Lib.hid fun j hj hne => lft_other z g hlt (j := j) hj hne
            rw [← hm] at hst hn ho hn2 ho1 HE1 HE2
            rw [ho] at c0
            rw [ho1] at c1
            have HM := Lib.hid fun wx => lMin_any (remT z g k) (z m) wx
            obtain ⟨p, hp⟩ : ∃ p, p = min (remT z g k) (z m) := ⟨_, rfl⟩
            have hpb : 0 ≤ p ∧ p ≤ z m ∧ p ≤ remT z g k := by omega
            rw [← hp] at hst hn hn2 HM
            have HST2 := Lib.hid hst
            have HN := Lib.hid hn
            have HN2 := Lib.hid hn2
            clear hst hn hn2 ho ho1 hp
            have hm8 : m < 8 := by omega
            have HMM := Lib.hid hm
            clear hm
            generalize hR : remT z g k = R at *
            generalize hY : z m = y at *
            clear hR hY
            rw [hmI]
            go_wp2_with fail
            refine (HM.out _).mono ?_
            rintro e w2 ⟨rfl, rfl⟩
            go_wp2_with fail
            go_roundw
            case rel => exact ⟨k + 1, by omega, by go_num, by rw [HST2.out], Lib.hid ((hT.out.putT hm8 HE1.out HN.out.symm).putL hm8 HE2.out HN2.out.symm)⟩
            case measure => (simp [intOf]; try omega)
          · obtain rfl : k = 8 := by omega
            have T2 := Lib.hid hT.out.2.2.2.2
            have hC := Lib.hid hT.out.1
            have hD := Lib.hid hT.out.2.1
            generalize lft z g 8 = L at *
            generalize tkn z g 8 = D at *
            have c0 := hC.out.at0 (k := 0) (by omega)
            have d0 := hD.out.at0 (k := 0) (by omega)
            have r0 : wr.cell? ⟨w.heap.size + 1, 0, none⟩ = some (.int .i32 0) := hT.out.2.2.1.1.at0 (by omega)
            have q0 : wr.cell? ⟨w.heap.size + 2, 0, none⟩ = some (.int .i32 0) := hT.out.2.2.1.2.at0 (by omega)
            have c1 := hC.out.at0 (k := 1) (by omega)
            have d1 := hD.out.at0 (k := 1) (by omega)
            have r1 : wr.cell? ⟨w.heap.size + 1, 1, none⟩ = some (.int .i32 0) := hT.out.2.2.1.1.at0 (by omega)
            have q1 : wr.cell? ⟨w.heap.size + 2, 1, none⟩ = some (.int .i32 0) := hT.out.2.2.1.2.at0 (by omega)
            have c2 := hC.out.at0 (k := 2) (by omega)
            have d2 := hD.out.at0 (k := 2) (by omega)
            have r2 : wr.cell? ⟨w.heap.size + 1, 2, none⟩ = some (.int .i32 0) := hT.out.2.2.1.1.at0 (by omega)
            have q2 : wr.cell? ⟨w.heap.size + 2, 2, none⟩ = some (.int .i32 0) := hT.out.2.2.1.2.at0 (by omega)
            have c3 := hC.out.at0 (k := 3) (by omega)
            have d3 := hD.out.at0 (k := 3) (by omega)
            have r3 : wr.cell? ⟨w.heap.size + 1, 3, none⟩ = some (.int .i32 0) := hT.out.2.2.1.1.at0 (by omega)
            have q3 : wr.cell? ⟨w.heap.size + 2, 3, none⟩ = some (.int .i32 0) := hT.out.2.2.1.2.at0 (by omega)
            have c4 := hC.out.at0 (k := 4) (by omega)
            have d4 := hD.out.at0 (k := 4) (by omega)
            have r4 : wr.cell? ⟨w.heap.size + 1, 4, none⟩ = some (.int .i32 0) := hT.out.2.2.1.1.at0 (by omega)
            have q4 : wr.cell? ⟨w.heap.size + 2, 4, none⟩ = some (.int .i32 0) := hT.out.2.2.1.2.at0 (by omega)
            have c5 := hC.out.at0 (k := 5) (by omega)
            have d5 := hD.out.at0 (k := 5) (by omega)
            have r5 : wr.cell? ⟨w.heap.size + 1, 5, none⟩ = some (.int .i32 0) := hT.out.2.2.1.1.at0 (by omega)
            have q5 : wr.cell? ⟨w.heap.size + 2, 5, none⟩ = some (.int .i32 0) := hT.out.2.2.1.2.at0 (by omega)
            have c6 := hC.out.at0 (k := 6) (by omega)
            have d6 := hD.out.at0 (k := 6) (by omega)
            have r6 : wr.cell? ⟨w.heap.size + 1, 6, none⟩ = some (.int .i32 0) := hT.out.2.2.1.1.at0 (by omega)
            have q6 : wr.cell? ⟨w.heap.size + 2, 6, none⟩ = some (.int .i32 0) := hT.out.2.2.1.2.at0 (by omega)
            have c7 := hC.out.at0 (k := 7) (by omega)
            have d7 := hD.out.at0 (k := 7) (by omega)
            have r7 : wr.cell? ⟨w.heap.size + 1, 7, none⟩ = some (.int .i32 0) := hT.out.2.2.1.1.at0 (by omega)
            have q7 : wr.cell? ⟨w.heap.size + 2, 7, none⟩ = some (.int .i32 0) := hT.out.2.2.1.2.at0 (by omega)
            have fz1 : ∀ o : Nat, wr.frozen? ⟨w.heap.size + 1, o, none⟩ = false := fun o => hT.out.2.2.2.1 _ o (by omega) (by omega)
            have fz2 : ∀ o : Nat, wr.frozen? ⟨w.heap.size + 2, o, none⟩ = false := fun o => hT.out.2.2.2.1 _ o (by omega) (by omega)
            clear HA HG HOK HRB HST hk hlt hs8 hg hgd hs
            rw [show (7 : Int) - ((8 : Nat) : Int) = -1 from rfl]
            go_wp2_with fail
            go_region
            all_goals
              go_wp2
              refine bodyPost_ret (by simp [results, Try.results19, go_sem, r0, r1, r2, r3, r4, r5, r6, r7, q0, q1, q2, q3, q4, q5, q6, q7]; try rfl) rfl ?_
              rw [hqe.out]
              refine ⟨rfl, ?_⟩
              go_grown
              exact T2.out
      · skip
        have hgd : decide (0 ≤ g) = true := decide_eq_true hg
        have hg2 : sumTo z 8 < g := by omega
        have hqe := Lib.hid (takeF_few hok hg hs)
        have T2 := Lib.hid K0.out.2.2.2.1
        have r0 : W0.cell? ⟨w.heap.size + 1, 0, none⟩ = some (.int .i32 0) := K0.out.2.1.1.at0 (by omega)
        have q0 : W0.cell? ⟨w.heap.size + 2, 0, none⟩ = some (.int .i32 0) := K0.out.2.1.2.at0 (by omega)
        have s0 := setCell_id r0
        have t0 := setCell_id q0
        have r1 : W0.cell? ⟨w.heap.size + 1, 1, none⟩ = some (.int .i32 0) := K0.out.2.1.1.at0 (by omega)
        have q1 : W0.cell? ⟨w.heap.size + 2, 1, none⟩ = some (.int .i32 0) := K0.out.2.1.2.at0 (by omega)
        have s1 := setCell_id r1
        have t1 := setCell_id q1
        have r2 : W0.cell? ⟨w.heap.size + 1, 2, none⟩ = some (.int .i32 0) := K0.out.2.1.1.at0 (by omega)
        have q2 : W0.cell? ⟨w.heap.size + 2, 2, none⟩ = some (.int .i32 0) := K0.out.2.1.2.at0 (by omega)
        have s2 := setCell_id r2
        have t2 := setCell_id q2
        have r3 : W0.cell? ⟨w.heap.size + 1, 3, none⟩ = some (.int .i32 0) := K0.out.2.1.1.at0 (by omega)
        have q3 : W0.cell? ⟨w.heap.size + 2, 3, none⟩ = some (.int .i32 0) := K0.out.2.1.2.at0 (by omega)
        have s3 := setCell_id r3
        have t3 := setCell_id q3
        have r4 : W0.cell? ⟨w.heap.size + 1, 4, none⟩ = some (.int .i32 0) := K0.out.2.1.1.at0 (by omega)
        have q4 : W0.cell? ⟨w.heap.size + 2, 4, none⟩ = some (.int .i32 0) := K0.out.2.1.2.at0 (by omega)
        have s4 := setCell_id r4
        have t4 := setCell_id q4
        have r5 : W0.cell? ⟨w.heap.size + 1, 5, none⟩ = some (.int .i32 0) := K0.out.2.1.1.at0 (by omega)
        have q5 : W0.cell? ⟨w.heap.size + 2, 5, none⟩ = some (.int .i32 0) := K0.out.2.1.2.at0 (by omega)
        have s5 := setCell_id r5
        have t5 := setCell_id q5
        have r6 : W0.cell? ⟨w.heap.size + 1, 6, none⟩ = some (.int .i32 0) := K0.out.2.1.1.at0 (by omega)
        have q6 : W0.cell? ⟨w.heap.size + 2, 6, none⟩ = some (.int .i32 0) := K0.out.2.1.2.at0 (by omega)
        have s6 := setCell_id r6
        have t6 := setCell_id q6
        have r7 : W0.cell? ⟨w.heap.size + 1, 7, none⟩ = some (.int .i32 0) := K0.out.2.1.1.at0 (by omega)
        have q7 : W0.cell? ⟨w.heap.size + 2, 7, none⟩ = some (.int .i32 0) := K0.out.2.1.2.at0 (by omega)
        have s7 := setCell_id r7
        have t7 := setCell_id q7
        have fz1 : ∀ o : Nat, W0.frozen? ⟨w.heap.size + 1, o, none⟩ = false := fun o => K0.out.2.2.1 _ o (by omega) (by omega)
        have fz2 : ∀ o : Nat, W0.frozen? ⟨w.heap.size + 2, o, none⟩ = false := fun o => K0.out.2.2.1 _ o (by omega) (by omega)
        rw [hok] at HA
        clear hok hs
        go_enter Try.func19, Try.ntmps19
        go_wp2_with fail
        rw [← HW0.out]
        refine (HA.out _).mono ?_
        rintro e w1 ⟨rfl, rfl⟩
        simp only [askC, if_true]
        go_wp2_with fail
        refine HG.out.mono ?_
        rintro e w1 ⟨rfl, rfl⟩

        go_wp2
        refine bodyPost_ret (by simp [results, Try.results19, go_sem, r0, r1, r2, r3, r4, r5, r6, r7, q0, q1, q2, q3, q4, q5, q6, q7]; try rfl) rfl ?_
        rw [hqe.out]
        exact ⟨rfl, T2.out⟩
    · skip
      have hgd : decide (0 ≤ g) = false := decide_eq_false hg
      have hg2 : g < 0 := by omega
      have hqe := Lib.hid (takeF_neg hok hg)
      have T2 := Lib.hid K0.out.2.2.2.1
      have r0 : W0.cell? ⟨w.heap.size + 1, 0, none⟩ = some (.int .i32 0) := K0.out.2.1.1.at0 (by omega)
      have q0 : W0.cell? ⟨w.heap.size + 2, 0, none⟩ = some (.int .i32 0) := K0.out.2.1.2.at0 (by omega)
      have s0 := setCell_id r0
      have t0 := setCell_id q0
      have r1 : W0.cell? ⟨w.heap.size + 1, 1, none⟩ = some (.int .i32 0) := K0.out.2.1.1.at0 (by omega)
      have q1 : W0.cell? ⟨w.heap.size + 2, 1, none⟩ = some (.int .i32 0) := K0.out.2.1.2.at0 (by omega)
      have s1 := setCell_id r1
      have t1 := setCell_id q1
      have r2 : W0.cell? ⟨w.heap.size + 1, 2, none⟩ = some (.int .i32 0) := K0.out.2.1.1.at0 (by omega)
      have q2 : W0.cell? ⟨w.heap.size + 2, 2, none⟩ = some (.int .i32 0) := K0.out.2.1.2.at0 (by omega)
      have s2 := setCell_id r2
      have t2 := setCell_id q2
      have r3 : W0.cell? ⟨w.heap.size + 1, 3, none⟩ = some (.int .i32 0) := K0.out.2.1.1.at0 (by omega)
      have q3 : W0.cell? ⟨w.heap.size + 2, 3, none⟩ = some (.int .i32 0) := K0.out.2.1.2.at0 (by omega)
      have s3 := setCell_id r3
      have t3 := setCell_id q3
      have r4 : W0.cell? ⟨w.heap.size + 1, 4, none⟩ = some (.int .i32 0) := K0.out.2.1.1.at0 (by omega)
      have q4 : W0.cell? ⟨w.heap.size + 2, 4, none⟩ = some (.int .i32 0) := K0.out.2.1.2.at0 (by omega)
      have s4 := setCell_id r4
      have t4 := setCell_id q4
      have r5 : W0.cell? ⟨w.heap.size + 1, 5, none⟩ = some (.int .i32 0) := K0.out.2.1.1.at0 (by omega)
      have q5 : W0.cell? ⟨w.heap.size + 2, 5, none⟩ = some (.int .i32 0) := K0.out.2.1.2.at0 (by omega)
      have s5 := setCell_id r5
      have t5 := setCell_id q5
      have r6 : W0.cell? ⟨w.heap.size + 1, 6, none⟩ = some (.int .i32 0) := K0.out.2.1.1.at0 (by omega)
      have q6 : W0.cell? ⟨w.heap.size + 2, 6, none⟩ = some (.int .i32 0) := K0.out.2.1.2.at0 (by omega)
      have s6 := setCell_id r6
      have t6 := setCell_id q6
      have r7 : W0.cell? ⟨w.heap.size + 1, 7, none⟩ = some (.int .i32 0) := K0.out.2.1.1.at0 (by omega)
      have q7 : W0.cell? ⟨w.heap.size + 2, 7, none⟩ = some (.int .i32 0) := K0.out.2.1.2.at0 (by omega)
      have s7 := setCell_id r7
      have t7 := setCell_id q7
      have fz1 : ∀ o : Nat, W0.frozen? ⟨w.heap.size + 1, o, none⟩ = false := fun o => K0.out.2.2.1 _ o (by omega) (by omega)
      have fz2 : ∀ o : Nat, W0.frozen? ⟨w.heap.size + 2, o, none⟩ = false := fun o => K0.out.2.2.1 _ o (by omega) (by omega)
      rw [hok] at HA
      clear hok hg
      go_enter Try.func19, Try.ntmps19
      go_wp2_with fail
      rw [← HW0.out]
      refine (HA.out _).mono ?_
      rintro e w1 ⟨rfl, rfl⟩
      simp only [askC, Bool.false_eq_true, if_true, if_false]
      go_wp2
      refine bodyPost_ret (by simp [results, Try.results19, go_sem, r0, r1, r2, r3, r4, r5, r6, r7, q0, q1, q2, q3, q4, q5, q6, q7]; try rfl) rfl ?_
      rw [hqe.out]
      exact ⟨rfl, T2.out⟩
end Go.Proofs.Ytekejhnhkifcfaa
