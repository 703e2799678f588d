/-
  No statement is proved here: AddRow in the document's own text; condition: at most 1048576 rows of at most 1048576 bytes.
-/
import Derived.Test.YtilbadnnmhcdoaaDoorAddM
import Derived.Test.YtilbadnnmhcdoaaDoorFbO
import Derived.Deep.DeepCutAuto
namespace Go.Proofs.YtilbadnnmhcdoaaDoor
open Go.ChangeShapes Go.WideShapes Go.ChangeAt Go.RowKit

theorem str_one1 (a : ByteArray) : ∀ u ∈ [Value.string a], u.oneCell' = true := by intro u hu; simp at hu; subst hu; rfl

set_option maxRecDepth 100000 in
set_option maxHeartbeats 8000000 in
theorem specAdd_any (c : Int) (v : Value) (L : List ByteArray) (s : ByteArray) (w : World) (hc : -32768 ≤ c ∧ c ≤ 32767) (hC : StrsC w v L) (hn : L.length ≤ 1048576) (hsz : ∀ j, j < L.length → (rowAt L j).size ≤ 1048576) (hs : s.size ≤ 1048576) :
    Calls Tryd.prog 10 #[.agg #[.int .i16 c, v], .string s] w fun e w' => ∃ r, e = .returned (.tuple #[.agg #[.int .i16 (addF c L s).1.1, r], .int .i64 (addF c L s).2]) ∧ OwnT w' w.heap.size r (addF c L s).1.2 ∧ Below w.heap.size w w' := by
  obtain ⟨i0, hi, hz0, hz1, hz2⟩ := info_parts infoStr
  obtain ⟨W0, hW0⟩ : ∃ W0, W0 = (w.alloc (.cells #[.int .i16 c, v] 27)).alloc (.cells #[.int .i16 0, .slice none 0 0] 27) := ⟨_, rfl⟩
  have T0 := Lib.hid (show Below w.heap.size w W0 by rw [hW0]; go_grown)
  have b0 : W0.cell? ⟨w.heap.size, 0, none⟩ = some (.int .i16 c) := by rw [hW0]; simp [go_sem]
  have b1 : W0.cell? ⟨w.heap.size, 1, none⟩ = some v := by rw [hW0]; simp [go_sem]
  have r0 : W0.cell? ⟨w.heap.size + 1, 0, none⟩ = some (.int .i16 0) := by rw [hW0]; simp [go_sem]
  have r1 : W0.cell? ⟨w.heap.size + 1, 1, none⟩ = some (.slice none 0 0) := by rw [hW0]; simp [go_sem]
  have f0 : W0.frozen? ⟨w.heap.size + 1, 0, none⟩ = false := by rw [hW0]; simp [go_sem]
  have f1 : W0.frozen? ⟨w.heap.size + 1, 1, none⟩ = false := by rw [hW0]; simp [go_sem]
  have hz : W0.heap.size = w.heap.size + 2 := by rw [hW0]; simp
  have HOK := Lib.hid (specOk_any w.heap.size c v L W0 b0 b1 hc (hC.1.below T0.out) hn hsz)
  have HC := Lib.hid (hC.below T0.out)
  obtain ⟨cs, q, rfl⟩ := hC.1.len
  have HW0 := Lib.hid hW0
  have B0 := Lib.hid b0
  have B1 := Lib.hid b1
  have R0 := Lib.hid r0
  have R1 := Lib.hid r1
  have F0 := Lib.hid f0
  have F1 := Lib.hid f1
  have HZ := Lib.hid hz
  cases ho : okF c L with
  | false =>
    rw [ho] at HOK
    rw [addF_no ho]
    clear hW0 hC b0 b1 r0 r1 f0 f1 hz
    go_enter Tryd.func10, Tryd.ntmps10
    go_wp2_with fail
    rw [← HW0.out]
    refine HOK.out.mono ?_
    rintro e w1 ⟨rfl, nd, rfl⟩
    have r0 : (W0.drewN nd).cell? ⟨w.heap.size + 1, 0, none⟩ = some (.int .i16 0) := R0.out
    have r1 : (W0.drewN nd).cell? ⟨w.heap.size + 1, 1, none⟩ = some (.slice none 0 0) := R1.out
    have f0 : (W0.drewN nd).frozen? ⟨w.heap.size + 1, 0, none⟩ = false := F0.out
    have f1 : (W0.drewN nd).frozen? ⟨w.heap.size + 1, 1, none⟩ = false := F1.out
    have T1 := Lib.hid (T0.out.trans ((bdN W0 nd).mono T0.out.size))
    generalize W0.drewN nd = w1 at *
    obtain ⟨e0, e1⟩ := res2 (.int .i16 0) (.slice none 0 0) r0 r1
    go_wp2_with fail
    refine bodyPost_ret (by simp [results, Tryd.results10, go_sem, e0, e1]; try rfl) rfl ?_
    exact ⟨_, rfl, World.ownsRow_nil _ _ _ _, below_set (below_set T1.out (by omega) _) (by omega) _⟩
  | true =>
    rw [ho] at HOK
    have HO2 := Lib.hid fun b' v' wx c0 c1 (hx : Strs wx v' (L ++ [s])) => specOk_any b' c v' (L ++ [s]) wx c0 c1 hc hx (by
      obtain ⟨_, hf⟩ := okF_parts ho
      have := fine_len hf
      simp; omega) (fun j hj => by
      by_cases hjl : j < L.length
      · rw [rowAt_app hjl]; exact hsz j hjl
      · have : j = L.length := by simp at hj; omega
        rw [this, rowAt_last]; exact hs)
    have HR1 := Lib.hid (fun h => addF_yes (s := s) ho h)
    have HR2 := Lib.hid (fun h => addF_not (s := s) ho h)
    generalize addF c L s = res at *
    obtain ⟨⟨rc, F⟩, cd⟩ := res
    dsimp only
    generalize okF c (L ++ [s]) = k2 at *
    have HSO := Lib.hid fun wx c0 c1 hx => specOwn_any w.heap.size c L.length (.slice cs L.length q) L wx c0 c1 hx (Nat.le_refl _) hn
    have HTk := Lib.hid (show L.take L.length = L from List.take_length)
    clear hW0 hC b0 b1 r0 r1 f0 f1 hz ho hsz hc
    obtain ⟨n, hln⟩ : ∃ n, n = L.length := ⟨_, rfl⟩
    rw [← hln] at HSO HTk hn B1 HC ⊢
    rw [← hln] at HW0
    have HLN := Lib.hid hln
    clear hln
    go_enter Tryd.func10, Tryd.ntmps10
    go_wp2_with fail
    rw [← HW0.out]
    refine HOK.out.mono ?_
    rintro e w1 ⟨rfl, nd, rfl⟩
    have b0 : (W0.drewN nd).cell? ⟨w.heap.size, 0, none⟩ = some (.int .i16 c) := B0.out
    have b1 : (W0.drewN nd).cell? ⟨w.heap.size, 1, none⟩ = some (.slice cs n q) := B1.out
    have r0 : Hid ((W0.drewN nd).cell? ⟨w.heap.size + 1, 0, none⟩ = some (.int .i16 0)) := R0
    have r1 : Hid ((W0.drewN nd).cell? ⟨w.heap.size + 1, 1, none⟩ = some (.slice none 0 0)) := R1
    have f0 : Hid ((W0.drewN nd).frozen? ⟨w.heap.size + 1, 0, none⟩ = false) := F0
    have f1 : Hid ((W0.drewN nd).frozen? ⟨w.heap.size + 1, 1, none⟩ = false) := F1
    have T1 := Lib.hid (T0.out.trans ((bdN W0 nd).mono T0.out.size))
    have C1 : Hid (StrsC (W0.drewN nd) (.slice cs n q) L) := Lib.hid (HC.out.below (bdN W0 nd))
    have Z1 : Hid (w.heap.size + 1 < (W0.drewN nd).heap.size) := Lib.hid (show w.heap.size + 1 < W0.heap.size by rw [HZ.out]; omega)
    have HS1 := Lib.hid (HSO.out _ b0 b1 C1.out)
    clear HSO HOK
    generalize W0.drewN nd = w1 at *
    go_wp2_with fail
    refine HS1.out.mono ?_
    rintro e w2 ⟨r, rfl, own, hB⟩
    rw [HTk.out] at own
    obtain ⟨ra, rq, rfl⟩ : ∃ ra rq, r = .slice ra n rq := by
      obtain ⟨ra, rq, e⟩ := own.strs.len
      rw [← HLN.out] at e
      exact ⟨ra, rq, e⟩
    have hrow := own.row
    rw [← HLN.out] at hrow
    have A2 : Below w2.heap.size w2 (w2.alloc (.cells #[.int .i16 c, .slice ra n rq] 27)) := (Below.refl _ _).alloc (Nat.le_refl _) _
    have T2 := Lib.hid (T1.out.trans (hB.mono T1.out.size))
    have T3 := Lib.hid (T2.out.trans (A2.mono T2.out.size))
    have rr0 := Lib.hid (kept A2 (Nat.lt_of_lt_of_le Z1.out hB.size) (kept hB Z1.out r0.out))
    have rr1 := Lib.hid (kept A2 (Nat.lt_of_lt_of_le Z1.out hB.size) (kept hB Z1.out r1.out))
    have ff0 := Lib.hid ((A2.frozen (p := ⟨w.heap.size + 1, 0, none⟩) (Nat.lt_of_lt_of_le Z1.out hB.size)).trans ((hB.frozen (p := ⟨w.heap.size + 1, 0, none⟩) Z1.out).trans f0.out))
    have ff1 := Lib.hid ((A2.frozen (p := ⟨w.heap.size + 1, 1, none⟩) (Nat.lt_of_lt_of_le Z1.out hB.size)).trans ((hB.frozen (p := ⟨w.heap.size + 1, 1, none⟩) Z1.out).trans f1.out))
    have o0 : (w2.alloc (.cells #[.int .i16 c, .slice ra n rq] 27)).cell? ⟨w2.heap.size, 0, none⟩ = some (.int .i16 c) := by simp [go_sem]
    have o1 : (w2.alloc (.cells #[.int .i16 c, .slice ra n rq] 27)).cell? ⟨w2.heap.size, 1, none⟩ = some (.slice ra n rq) := by simp [go_sem]
    have of1 : (w2.alloc (.cells #[.int .i16 c, .slice ra n rq] 27)).frozen? ⟨w2.heap.size, 1, none⟩ = false := by simp [go_sem]
    have HR := Lib.hid (hrow.alloc (.cells #[.int .i16 c, .slice ra n rq] 27))
    have HRB := Lib.hid (show ∀ k, (Value.slice ra n rq).ownBlock = some k → w1.heap.size ≤ k ∧ k < w2.heap.size from own.lt)
    have Z2 := Lib.hid (show w1.heap.size ≤ w2.heap.size from hB.size)
    have Z3 : Hid (w2.heap.size < (w2.alloc (.cells #[.int .i16 c, .slice ra n rq] 27)).heap.size) := Lib.hid (by simp)
    obtain ⟨w3, hw3⟩ : ∃ w3, w3 = (w2.alloc (.cells #[.int .i16 c, .slice ra n rq] 27)) := ⟨_, rfl⟩
    rw [← hw3] at T3 rr0 rr1 ff0 ff1 o0 o1 of1 HR Z3
    have HW3 := Lib.hid hw3
    clear hw3
    have O0 := Lib.hid o0
    have O1 := Lib.hid o1
    have OF1 := Lib.hid of1
    clear hB own hrow A2 b0 b1 r0 r1 f0 f1 o0 o1 of1 HS1 C1
    go_upto_region 4 with fail
    rw [← HW3.out]
    have c1 := O1.out
    have cf1 := OF1.out
    clear HW3
    generalize w2.heap.size = ob at *
    go_wp2_with (first
      | (at_builtin; refine wpList_append_lies _ rfl _ _ _ rfl w1.heap.size 9 i0 (.string ByteArray.empty) 1 16 Tryd.underlying23 hi hz0 hz1 hz2 rfl (by omega) (.slice ra n rq) n _ rfl (HR.out.alloc _) ⟨w3.heap.size, 0, none⟩ 1 1 [.string s] rfl rfl (World.news_of_block (heap_alloc_new w3 _)) (str_one1 _) (by omega) (by unfold maxLen; omega) (by omega) (by have := Z2.out; have := Z3.out; simp; omega) (w3.heap.size + 1) (by simp) ?_)
      | fail)
    intro gg cap w4 hown hgrow hat hlt2
    have G4 := grown_alO hgrow
    have HO4 : Hid (OwnT w4 w1.heap.size (.slice (some ⟨gg, 0, none⟩) (n + 1) cap) (L ++ [s])) := Lib.hid (by
      unfold OwnT
      rw [List.length_append, ← HLN.out, List.map_append]
      exact hown)
    have hb1 : ∀ k, (Value.slice ra n rq).ownBlock = some k → w1.heap.size ≤ k ∧ k < ob := HRB.out
    have p0 := (G4.cell_far ⟨ob, 0, none⟩ Z3.out (fun e => by have := (hb1 _ e.symm).2; exact absurd this (Nat.lt_irrefl _))).trans O0.out
    have p1 := (G4.cell_far ⟨ob, 1, none⟩ Z3.out (fun e => by have := (hb1 _ e.symm).2; exact absurd this (Nat.lt_irrefl _))).trans O1.out
    have pf1 := (G4.frozen_far ⟨ob, 1, none⟩ Z3.out (fun e => by have := (hb1 _ e.symm).2; exact absurd this (Nat.lt_irrefl _))).trans OF1.out
    have zr : w.heap.size + 1 < w1.heap.size := Z1.out
    have zr3 : w.heap.size + 1 < w3.heap.size := Nat.lt_trans (Nat.lt_of_lt_of_le zr Z2.out) Z3.out
    have far : ∀ k, (Value.slice ra n rq).ownBlock = some k → ¬ w.heap.size + 1 = k := fun k hk => by have := (hb1 k hk).1; omega
    have q0 := (G4.cell_far ⟨w.heap.size + 1, 0, none⟩ zr3 (fun e => far _ e.symm rfl)).trans rr0.out
    have q1 := (G4.cell_far ⟨w.heap.size + 1, 1, none⟩ zr3 (fun e => far _ e.symm rfl)).trans rr1.out
    have g0 := (G4.frozen_far ⟨w.heap.size + 1, 0, none⟩ zr3 (fun e => far _ e.symm rfl)).trans ff0.out
    have g1 := (G4.frozen_far ⟨w.heap.size + 1, 1, none⟩ zr3 (fun e => far _ e.symm rfl)).trans ff1.out
    have T4 := T3.out.grown G4 (by omega) (fun k hk => by have := (hb1 k hk).1; omega)
    have hne : w.heap.size + 1 ≠ ob := by have := Z2.out; omega
    -- the out box takes the rows
    obtain ⟨w5, hw5⟩ : ∃ w5, w5 = w4.setCell ⟨ob, 1, none⟩ (.slice (some ⟨gg, 0, none⟩) (n + 1) cap) := ⟨_, rfl⟩
    have z0 : w5.cell? ⟨ob, 0, none⟩ = some (.int .i16 c) := by rw [hw5]; exact (World.cell?_setCell_other _ _ _ _ (by simp)).trans p0
    have z1 : w5.cell? ⟨ob, 1, none⟩ = some (.slice (some ⟨gg, 0, none⟩) (n + 1) cap) := by rw [hw5]; exact World.cell?_setCell_same _ _ _ p1
    have y0 : w5.cell? ⟨w.heap.size + 1, 0, none⟩ = some (.int .i16 0) := by rw [hw5]; exact (World.cell?_setCell_other _ _ _ _ (by simp)).trans q0
    have y1 : w5.cell? ⟨w.heap.size + 1, 1, none⟩ = some (.slice none 0 0) := by rw [hw5]; exact (World.cell?_setCell_other _ _ _ _ (by simp)).trans q1
    have yf0 : w5.frozen? ⟨w.heap.size + 1, 0, none⟩ = false := by rw [hw5]; simpa [go_sem] using g0
    have yf1 : w5.frozen? ⟨w.heap.size + 1, 1, none⟩ = false := by rw [hw5]; simpa [go_sem] using g1
    have T5 : Below w.heap.size w w5 := by rw [hw5]; exact below_set T4 (by have := Z1.out; have := Z2.out; omega) _
    have HB4 := Lib.hid (show ∀ k, (Value.slice (some ⟨gg, 0, none⟩) (n + 1) cap).ownBlock = some k → w1.heap.size ≤ k ∧ k < w4.heap.size from HO4.out.lt)
    have hgo : some ob ≠ (Value.slice (some ⟨gg, 0, none⟩) (n + 1) cap).ownBlock := fun e => by
      have e' : ob = gg := Option.some.inj e
      rcases hat with h | h
      · have := (hb1 gg h).2
        omega
      · have := Z3.out
        omega
    have hob : ob < w4.heap.size := Nat.lt_of_lt_of_le Z3.out G4.size
    have GS : w4.grownBy w5 (some ob) := by
      rw [hw5]
      exact ⟨rfl, rfl, rfl, by simp, fun i _ hne => Below.heap_setCell _ _ _ i (fun e => hne (by rw [e]))⟩
    have HO5 := Lib.hid (HO4.out.kept GS (.inr (fun e => hgo e.symm)))
    have HK2 := Lib.hid (HO2.out ob (.slice (some ⟨gg, 0, none⟩) (n + 1) cap) w5 z0 z1 HO5.out.strs)
    have HT5 := Lib.hid T5
    have y0' := Lib.hid y0
    have y1' := Lib.hid y1
    have yf0' := Lib.hid yf0
    have yf1' := Lib.hid yf1
    have z0' := Lib.hid z0
    have z1' := Lib.hid z1
    have HW5 := Lib.hid hw5
    clear hown hgrow hat hlt2 G4 HO4 hb1 q0 q1 g0 g1 T4 hne far HO2 zr zr3 z0 z1 y0 y1 yf0 yf1 T5 hw5 hob GS hgo
    go_wp2_with fail
    rw [← HW5.out]
    refine HK2.out.mono ?_
    rintro e w6 ⟨rfl, nd2, rfl⟩
    have y0 : (w5.drewN nd2).cell? ⟨w.heap.size + 1, 0, none⟩ = some (.int .i16 0) := y0'.out
    have y1 : (w5.drewN nd2).cell? ⟨w.heap.size + 1, 1, none⟩ = some (.slice none 0 0) := y1'.out
    have yf0 : (w5.drewN nd2).frozen? ⟨w.heap.size + 1, 0, none⟩ = false := yf0'.out
    have yf1 : (w5.drewN nd2).frozen? ⟨w.heap.size + 1, 1, none⟩ = false := yf1'.out
    have z0 : (w5.drewN nd2).cell? ⟨ob, 0, none⟩ = some (.int .i16 c) := z0'.out
    have z1 : (w5.drewN nd2).cell? ⟨ob, 1, none⟩ = some (.slice (some ⟨gg, 0, none⟩) (n + 1) cap) := z1'.out
    have T6 := Lib.hid (HT5.out.trans ((bdN w5 nd2).mono HT5.out.size))
    have O6 : Hid (OwnT (w5.drewN nd2) w1.heap.size (.slice (some ⟨gg, 0, none⟩) (n + 1) cap) (L ++ [s])) := Lib.hid (HO5.out.below (bdN w5 nd2))
    have YZ : Hid (w.heap.size + 1 < w1.heap.size) := Z1
    clear HO5 y0' y1' yf0' yf1' z0' z1' HT5 HW5
    generalize w5.drewN nd2 = w6 at *
    cases k2 with
    | false =>
      have hre := HR2.out rfl
      simp only [Prod.mk.injEq] at hre
      obtain ⟨⟨rfl, rfl⟩, rfl⟩ := hre
      obtain ⟨e0, e1⟩ := res2 (.int .i16 0) (.slice none 0 0) y0 y1
      clear HR1 HR2
      go_wp2_with fail
      refine bodyPost_ret (by simp [results, Tryd.results10, go_sem, e0, e1]; try rfl) rfl ?_
      exact ⟨_, rfl, World.ownsRow_nil _ _ _ _, below_set (below_set T6.out (by omega) _) (by omega) _⟩
    | true =>
      have hre := HR1.out rfl
      simp only [Prod.mk.injEq] at hre
      obtain ⟨⟨rfl, rfl⟩, rfl⟩ := hre
      obtain ⟨e0, e1⟩ := res2 (.int .i16 rc) (.slice (some ⟨gg, 0, none⟩) (n + 1) cap) y0 y1
      clear HR1 HR2
      go_wp2_with fail
      refine bodyPost_ret (by simp [results, Tryd.results10, go_sem, e0, e1]; try rfl) rfl ?_
      exact ⟨_, rfl, OwnT.mono (base := w1.heap.size) (ownsRow_setCell_below (ownsRow_setCell_below O6.out YZ.out _) YZ.out _) (by have := YZ.out; omega), below_set (below_set T6.out (by omega) _) (by omega) _⟩
end Go.Proofs.YtilbadnnmhcdoaaDoor
