/-
  No statement is proved here: how long turns of a ball are, as the program and as the document's own text tell it; condition: the program's errors lie where its text lays them.
-/
import Derived.Test.YtcefdmdidakilaaDoorBallT
namespace Go.Proofs.YtcefdmdidakilaaDoor
open Go.ChangeShapes Go.WideShapes Go.ChangeAt Go.RowKit

/-- The lengths of the first k turns as a list. -/
def bturns (s g y : Int) (k : Nat) : List Int := (List.range k).map (bturn s g y)
theorem bturns_length (s g y : Int) (k : Nat) : (bturns s g y k).length = k := by simp [bturns]
theorem bturns_get (s g y : Int) (k j : Nat) (h : j < k) : (bturns s g y k).getD j 0 = bturn s g y j := by
  unfold bturns
  simp [List.getD, h]
theorem bturns_sum (s g y : Int) : ∀ k, (bturns s g y k).sum = bsum s g y k
  | 0 => rfl
  | k + 1 => by
    have ih := bturns_sum s g y k
    unfold bturns at ih ⊢
    rw [List.range_succ, List.map_append, List.sum_append, ih, bsum]
    simp
theorem bturn_small {s g y : Int} (h : ballB s g y = true) (k : Nat) (hk : k ≤ 1000) : 0 ≤ bturn s g y k ∧ bturn s g y k ≤ 1000000 := by
  obtain ⟨⟨s1, s2⟩, ⟨g1, g2⟩, y1, y2⟩ := ballB_of h
  have hq0 : 0 ≤ (k : Int) / y := Int.ediv_nonneg (by omega) (by omega)
  have hq1 : (k : Int) / y ≤ 1000 := Int.le_trans (Int.ediv_le_self y (by omega)) (by omega)
  have hm0 : 0 ≤ (k : Int) / y * g := Int.mul_nonneg hq0 g1
  have hm1 : (k : Int) / y * g ≤ 1000 * 500 := Int.mul_le_mul hq1 g2 g1 (by omega)
  unfold bturn
  omega
theorem bturns_upTo {s g y : Int} (h : ballB s g y = true) (k : Nat) (hk : k ≤ 1000) : upTo (bturns s g y k) 1000000 = true := by
  unfold upTo bturns
  rw [List.all_eq_true]
  intro z hz
  obtain ⟨j, hj, rfl⟩ := List.mem_map.1 hz
  exact inB_mk (bturn_small h j (by have := List.mem_range.1 hj; omega))

theorem own_below {w w' : World} {base g n cap : Nat} {e : TypeId} {size : Nat} {xs : List Value} (h : w.ownsRow base e size (.slice (some ⟨g, 0, none⟩) n cap) n xs) (hB : Below w.heap.size w w') : w'.ownsRow base e size (.slice (some ⟨g, 0, none⟩) n cap) n xs := by
  refine ⟨h.1, ?_⟩
  rcases h.2 with h2 | ⟨g', cap', cur, hv, hg, hh, r⟩
  · exact .inl h2
  · exact .inr ⟨g', cap', cur, hv, hg, by rw [hB.block g' (lt_of_block hh)]; exact hh, r⟩

set_option maxRecDepth 100000 in
set_option maxHeartbeats 4000000 in
theorem implBallLength_any (p : Nat → Addr) (n s g y : Int) (w : World) (hs : Sent w p) :
    Calls Tryd.prog 10 #[.int .i64 n, .int .i64 s, .int .i64 g, .int .i64 y] w fun e w' => e = .returned (.tuple #[.int .i64 (lenF n s g y).1, .int .i64 (lenF n s g y).2]) ∧ Below w.heap.size w w' := by
  obtain ⟨i0, hi, hz0, hz1, hz2⟩ := info_parts info64
  have HS := Lib.hid hs
  have q1 := neqNil_err
  have q2 := neqNil_nil
  clear hs
  have C := Lib.hid fun wx hx => ballCheck_any p s g y n 0 1000 wx hx
  cases h : (inB n 0 1000 && ballB s g y) with
  | false =>
    rw [lenF_no h]
    rw [h, errIn_no] at C
    have HC := Lib.hid fun wx hx => codeOf_err (p := p) 1 (by omega) wx hx
    clear h
    go_enter Tryd.func10, Tryd.ntmps10
    go_wp2_with fail
    refine (C.out _ (HS.out.below ((Below.refl _ _).alloc (Nat.le_refl _) _))).mono ?_
    rintro e w2 ⟨rfl, hB⟩
    have B2 := Lib.hid (((Below.refl w.heap.size w).alloc (Nat.le_refl _) _).trans (hB.mono (by simp)))
    clear hB
    go_wp2_with fail
    refine (HC.out _ (HS.out.below B2.out)).mono ?_
    rintro e w' ⟨rfl, rfl⟩
    go_wp2
    go_ret2
    exact ⟨rfl, B2.out⟩
  | true =>
    have h2 : inB n 0 1000 = true ∧ ballB s g y = true := by simpa using h
    obtain ⟨l0, l1⟩ := inB_of h2.1
    obtain ⟨N, rfl⟩ : ∃ N : Nat, n = (N : Int) := ⟨n.toNat, by omega⟩
    have JF := Lib.hid (lenF_yes (n := (N : Int)) (s := s) (g := g) (y := y) h (k := N) rfl (x := bsum s g y N) rfl)
    generalize lenF (N : Int) s g y = out at *
    rw [h, errIn_yes] at C
    have HB := Lib.hid h2.2
    clear h h2
    obtain ⟨zs, hzs⟩ : ∃ zs, zs = bturns s g y N := ⟨_, rfl⟩
    have HL := Lib.hid (show N = zs.length by rw [hzs, bturns_length])
    have HG := Lib.hid (show ∀ j, j < N → zs.getD j 0 = bturn s g y j from fun j hj => by rw [hzs, bturns_get s g y N j hj])
    have HU := Lib.hid (show upTo zs 1000000 = true by rw [hzs]; exact bturns_upTo HB.out N (by omega))
    have HSum := Lib.hid (show zs.sum = bsum s g y N by rw [hzs, bturns_sum])
    clear hzs
    obtain ⟨B, hBe⟩ : ∃ B, B = w.heap.size := ⟨_, rfl⟩
    rw [← hBe]
    have HBe := Lib.hid hBe
    clear hBe
    go_enter Tryd.func10, Tryd.ntmps10
    go_wp2_with fail
    refine (C.out _ (HS.out.below ((Below.refl _ _).alloc (Nat.le_refl _) _))).mono ?_
    rintro e w2 ⟨rfl, hB⟩
    have B2 := Lib.hid (((Below.refl w.heap.size w).alloc (Nat.le_refl _) (.cells #[.int .i64 s, .int .i64 g, .int .i64 y] 42)).trans (hB.mono (by simp)))
    have A2 := Lib.hid (BallAt.below (s := s) (g := g) (y := y) (w := w.alloc (.cells #[.int .i64 s, .int .i64 g, .int .i64 y] 42)) (b := w.heap.size) ⟨by simp [go_sem], by simp [go_sem], by simp [go_sem]⟩ hB (by simp))
    have Z2 := Lib.hid (show w.heap.size < w2.heap.size by have := hB.size; simp at this; omega)
    rw [← HBe.out] at B2 A2 Z2 ⊢
    clear hB
    go_wp2_with (first | (at_make; refine wpList_make_full _ rfl _ _ 30 rfl w2.heap.size 2 i0 (.int .i64 0) 1 Tryd.underlying30 hi hz0 hz1 _ _ _ _ N rfl rfl rfl rfl (by rw [hz2]; omega) (by unfold maxLen; omega) (Nat.le_refl _) ?_; intro w1 hown hgrow) | go_in)
    have hB1 : Below w2.heap.size w2 w1 := (Below.refl _ _).grown hgrow (Nat.le_refl _) (fun k hk => by cases hk)
    obtain ⟨D, hDe⟩ : ∃ D, D = w2.heap.size := ⟨_, rfl⟩
    rw [← hDe] at hB1 hown ⊢
    have ZD := Lib.hid (show B < D by rw [hDe]; exact Z2.out)
    have A1 := Lib.hid (A2.out.below hB1 ZD.out)
    have B1 := Lib.hid (B2.out.trans (hB1.mono (Nat.le_of_lt ZD.out)))
    have hz0' : (madeCells (Value.int IntKind.i64 0).cells (N * 1)).toList = (fill zs 0).map (Value.int .i64) := by
      rw [fill_zero, ← HL.out, Nat.mul_one]
      show (madeCells #[Value.int IntKind.i64 0] N).toList = _
      rw [toList_madeCells_one]
      simp
    rw [hz0'] at hown
    have HW := Lib.hid hown
    have HFL := Lib.hid fun k (hk : k ≤ N) => fill_length zs k (by rw [← HL.out]; exact hk)
    have HST := Lib.hid fun k (hk : k < N) => fill_step zs k (by rw [← HL.out]; exact hk)
    clear hown hB1 hgrow hz0' hDe
    go_loopw [30] (fun i wr => ∃ k : Nat, k ≤ N ∧ i = .int .i64 k ∧ Hid (wr.ownsRow D 2 1 (.slice (some ⟨D, 0, none⟩) N N) N ((fill zs k).map (Value.int .i64))) ∧ Hid (Below B w wr) ∧ Hid (BallAt wr B s g y)) (fun i _ => N - (intOf i).toNat)
    case atStart => exact ⟨0, Nat.zero_le _, rfl, HW, B1, A1⟩
    case round =>
      obtain ⟨k, hk, rfl, hO, hBe, hA⟩ := hrel
      by_cases hlt : k < N
      · have HT := Lib.hid fun wx => ballTurn_any HB.out k (by omega) wx
        rw [← HG.out k hlt] at HT
        obtain ⟨z, hz⟩ : ∃ z, z = zs.getD k 0 := ⟨_, rfl⟩
        rw [← hz] at HT
        have HZ := Lib.hid hz
        obtain ⟨a0, a1, a2⟩ := hA.out
        have hDl : D < wr.heap.size := (World.ownsRow.lt hO.out D rfl).2
        clear hz
        go_wp2_with fail
        refine (HT.out _).mono ?_
        rintro e w3 ⟨rfl, hB⟩
        have B3 := Lib.hid (hBe.out.trans (hB.mono (by have := ZD.out; omega)))
        have A3 := Lib.hid (hA.out.below hB (by have := ZD.out; omega))
        have O3 := Lib.hid (own_below hO.out hB)
        have hcy : w3.cell? ⟨D, k, none⟩ = some (.int .i64 ((fill zs k).getD k 0)) := (O3.out.cellAt k (by omega)).trans (cellOf (by rw [HFL.out k hk, ← HL.out]; exact hlt))
        have hfy : w3.frozen? ⟨D, k, none⟩ = false := O3.out.frozenAt k
        clear hB a0 a1 a2
        go_wp2
        go_roundw
        case rel =>
          have h := (O3.out.stored k (Value.int .i64 z)).1
          rw [← List.map_set, HZ.out, HST.out k hlt] at h
          refine ⟨k + 1, by omega, by go_num, Lib.hid (by rw [HZ.out]; exact h), Lib.hid (B3.out.setCell (p := ⟨D, k, none⟩) (Nat.le_of_lt ZD.out) _), Lib.hid ?_⟩
          have hne : ∀ o, (w3.setCell ⟨D, k, none⟩ (.int .i64 z)).cell? ⟨B, o, none⟩ = w3.cell? ⟨B, o, none⟩ := fun o => World.cell?_setCell_other _ _ _ _ (fun hh => by have h1 := ZD.out; have h2 := congrArg Addr.block hh; simp only at h2; omega)
          exact ⟨(hne 0).trans A3.out.1, (hne 1).trans A3.out.2.1, (hne 2).trans A3.out.2.2⟩
        case measure => simp [intOf]; omega
      · have hkn : k = N := by omega
        subst hkn
        have e : fill zs k = zs := by rw [HL.out]; exact fill_all zs
        have hI : Own wr D (.slice (some ⟨D, 0, none⟩) k k) zs := by
          have h := hO.out
          rw [e] at h
          unfold Own
          rw [← HL.out]
          exact h
        have HI := Lib.hid (sumOf_any _ zs wr hI.ints (by rw [← HL.out]; omega) HU.out)
        rw [HSum.out] at HI
        clear e hI
        generalize bsum s g y k = S at *
        go_wp2_with fail
        refine HI.out.mono ?_
        rintro e w' ⟨rfl, rfl⟩
        go_wp2
        go_ret2
        exact ⟨by rw [JF.out]; rfl, hBe.out⟩
end Go.Proofs.YtcefdmdidakilaaDoor
