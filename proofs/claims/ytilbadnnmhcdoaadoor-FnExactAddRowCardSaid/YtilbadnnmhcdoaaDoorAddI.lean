/-
  No statement is proved here: AddRow in the program; condition: its errors lie where its text lays them; at most 1048576 rows of at most 1048576 bytes.
-/
import Derived.Test.YtilbadnnmhcdoaaDoorAddM
import Derived.Test.YtilbadnnmhcdoaaDoorFbO
import Derived.Test.YtilbadnnmhcdoaaDoorKnitP
import Derived.Test.YtilbadnnmhcdoaaDoorKnitC
namespace Go.Proofs.YtilbadnnmhcdoaaDoor
open Go.ChangeShapes Go.WideShapes Go.ChangeAt Go.RowKit

theorem str_oneI (a : ByteArray) : ∀ u ∈ [Value.string a], u.oneCell' = true := by intro u hu; simp at hu; subst hu; rfl

set_option maxRecDepth 100000 in
set_option maxHeartbeats 8000000 in
theorem implAdd_any (p : Nat → Addr) (c : Int) (v : Value) (L : List ByteArray) (s : ByteArray) (w : World) (hs : Sent w p) (hc : -32768 ≤ c ∧ c ≤ 32767) (hC : StrsC w v L) (hn : L.length ≤ 1048576) (hsz : ∀ j, j < L.length → (rowAt L j).size ≤ 1048576) (hs1 : s.size ≤ 1048576) :
    Calls Tryd.prog 12 #[.agg #[.int .i16 c, v], .string s] w fun e w' => ∃ r, e = .returned (.tuple #[.agg #[.int .i16 (addF c L s).1.1, r], .int .i64 (addF c L s).2]) ∧ OwnT w' w.heap.size r (addF c L s).1.2 ∧ Below w.heap.size w w' := by
  obtain ⟨i0, hi, hz0, hz1, hz2⟩ := info_parts infoStr
  obtain ⟨W0, hW0⟩ : ∃ W0, W0 = (w.alloc (.cells #[.int .i16 c, v] 27)).alloc (.cells #[.int .i16 0, .slice none 0 0] 27) := ⟨_, rfl⟩
  have T0 := Lib.hid (show Below w.heap.size w W0 by rw [hW0]; go_grown)
  have b0 : W0.cell? ⟨w.heap.size, 0, none⟩ = some (.int .i16 c) := by rw [hW0]; simp [go_sem]
  have r0 : W0.cell? ⟨w.heap.size + 1, 0, none⟩ = some (.int .i16 0) := by rw [hW0]; simp [go_sem]
  have r1 : W0.cell? ⟨w.heap.size + 1, 1, none⟩ = some (.slice none 0 0) := by rw [hW0]; simp [go_sem]
  have f0 : W0.frozen? ⟨w.heap.size + 1, 0, none⟩ = false := by rw [hW0]; simp [go_sem]
  have f1 : W0.frozen? ⟨w.heap.size + 1, 1, none⟩ = false := by rw [hW0]; simp [go_sem]
  have HZ := Lib.hid (show w.heap.size + 1 < W0.heap.size by rw [hW0]; simp)
  have HP := Lib.hid (piece_any p c v L (.slice none 0 0) true W0 (hs.below T0.out) hc (hC.1.below T0.out) hn hsz (fun wx _ => check0_any wx))
  obtain ⟨cs, q, rfl⟩ := hC.1.len
  have HW0 := Lib.hid hW0
  have B0 := Lib.hid b0
  have R0 := Lib.hid r0
  have R1 := Lib.hid r1
  have F0 := Lib.hid f0
  have F1 := Lib.hid f1
  have HNo := Lib.hid (fun h => addF_no (c := c) (L := L) (s := s) h)
  have HR1 := Lib.hid (fun h h' => addF_yes (c := c) (L := L) (s := s) h h')
  have HR2 := Lib.hid (fun h h' => addF_not (c := c) (L := L) (s := s) h h')
  generalize addF c L s = res at *
  obtain ⟨⟨rcc, F⟩, cd⟩ := res
  dsimp only
  obtain ⟨hc1, hc2⟩ := hc
  clear hW0 hC b0 r0 r1 f0 f1 hs
  go_enter Tryd.func12, Tryd.ntmps12
  go_wp2_with fail
  rw [← HW0.out]
  refine HP.out.mono ?_
  rintro e w1 ⟨hB, hR⟩
  have T1 := Lib.hid (T0.out.trans (hB.mono T0.out.size))
  have b0 := Lib.hid (kept hB (Nat.lt_trans (Nat.lt_succ_self _) HZ.out) B0.out)
  have r0 := Lib.hid (kept hB HZ.out R0.out)
  have r1 := Lib.hid (kept hB HZ.out R1.out)
  have f0 := Lib.hid ((hB.frozen (p := ⟨w.heap.size + 1, 0, none⟩) HZ.out).trans F0.out)
  have f1 := Lib.hid ((hB.frozen (p := ⟨w.heap.size + 1, 1, none⟩) HZ.out).trans F1.out)
  have Z1 := Lib.hid (Nat.lt_of_lt_of_le HZ.out hB.size)
  have Z01 := Lib.hid hB.size
  rcases hR with ⟨hok, rfl⟩ | ⟨hok, rv, wv, rfl, ho1, ho2, _⟩
  · have hre := HNo.out hok
    simp only [Prod.mk.injEq] at hre
    obtain ⟨⟨rfl, rfl⟩, rfl⟩ := hre
    have A1 : Below w1.heap.size w1 (w1.alloc (.cells #[.int .i64 0, .slice none 0 0, .slice none 0 0] 60)) := (Below.refl _ _).alloc (Nat.le_refl _) _
    have k0 := kept A1 Z1.out r0.out
    have k1 := kept A1 Z1.out r1.out
    have g0 := (A1.frozen (p := ⟨w.heap.size + 1, 0, none⟩) Z1.out).trans f0.out
    have g1 := (A1.frozen (p := ⟨w.heap.size + 1, 1, none⟩) Z1.out).trans f1.out
    have T2 := Lib.hid (T1.out.trans (A1.mono T1.out.size))
    obtain ⟨e0, e1⟩ := res2 (.int .i16 0) (.slice none 0 0) k0 k1
    clear hB hok HP A1 HNo HR1 HR2
    unfold pz
    go_wp2_with fail
    refine bodyPost_ret (by simp [results, Tryd.results12, go_sem, e0, e1]; try rfl) rfl ?_
    exact ⟨_, rfl, World.ownsRow_nil _ _ _ _, below_set (below_set T2.out (by omega) _) (by omega) _⟩
  · obtain ⟨hcb, hfine⟩ := okF_parts hok
    have hwd := wd_bd hcb hfine
    have hlen := fine_len hfine
    have HK2 := Lib.hid (okF_app (s := s) hok)
    have HOK := Lib.hid hok
    obtain ⟨ra, rc, rfl⟩ : ∃ ra rc, rv = .slice ra L.length rc := ho1.strs.len
    have hrow := ho1.row
    obtain ⟨n, hln⟩ : ∃ n, n = L.length := ⟨_, rfl⟩
    rw [← hln] at hrow HK2 hwd ho1 ho2 ⊢
    obtain ⟨A2, hA2⟩ : ∃ A2, A2 = w1.alloc (.cells #[.int .i64 c, .slice ra n rc, wv] 60) := ⟨_, rfl⟩
    obtain ⟨wa, wc, rfl⟩ : ∃ wa wc, wv = .slice wa (n + 1 : Nat) wc := by
      obtain ⟨wa, wc, e⟩ := ho2.ints.len
      rw [wdsTo_length] at e
      exact ⟨wa, wc, e⟩
    have hA : Below w1.heap.size w1 A2 := hA2 ▸ (Below.refl _ _).alloc (Nat.le_refl _) _
    have HCT := Lib.hid (canTake_any c ra rc n (.slice wa (n + 1 : Nat) wc) (wdsTo c L (n + 1)) s A2 (ho2.ints.below hA) (wdsTo_length _ _ _) (by omega) (by rw [wdsTo_get c L (n + 1) n (by omega)]; exact hwd.1) hs1)
    rw [wdsTo_get c L (n + 1) n (by omega), ← HK2.out] at HCT
    have p0 : A2.cell? ⟨w1.heap.size, 0, none⟩ = some (.int .i64 c) := by rw [hA2]; simp [go_sem]
    have p1 : A2.cell? ⟨w1.heap.size, 1, none⟩ = some (.slice ra n rc) := by rw [hA2]; simp [go_sem]
    have p2 : A2.cell? ⟨w1.heap.size, 2, none⟩ = some (.slice wa (n + 1 : Nat) wc) := by rw [hA2]; simp [go_sem]
    have P1 := Lib.hid p1
    have HRow := Lib.hid (show A2.ownsRow W0.heap.size 9 1 (.slice ra n rc) n (L.map Value.string) by rw [hA2]; exact hrow.alloc _)
    have HRB := Lib.hid (show ∀ k, (Value.slice ra n rc).ownBlock = some k → W0.heap.size ≤ k ∧ k < w1.heap.size from ho1.lt)
    have TA := Lib.hid (T1.out.trans (hA.mono T1.out.size))
    have ba := Lib.hid (kept hA (Nat.lt_trans (Nat.lt_succ_self _) Z1.out) b0.out)
    have ra0 := Lib.hid (kept hA Z1.out r0.out)
    have ra1 := Lib.hid (kept hA Z1.out r1.out)
    have fa0 := Lib.hid ((hA.frozen (p := ⟨w.heap.size + 1, 0, none⟩) Z1.out).trans f0.out)
    have fa1 := Lib.hid ((hA.frozen (p := ⟨w.heap.size + 1, 1, none⟩) Z1.out).trans f1.out)
    have ZP : Hid (w1.heap.size < A2.heap.size) := Lib.hid (by rw [hA2]; simp)
    have HA2 := Lib.hid hA2
    have HLN := Lib.hid hln
    have hn30 : n ≤ 30 := by omega
    clear hB hok HP HNo hrow ho1 ho2 hA2 hA hln hfine hcb hwd hlen hsz hn b0 r0 r1 f0 f1
    generalize hpb : w1.heap.size = pb at *
    have HPB := Lib.hid hpb
    clear hpb
    go_wp2_with fail
    rw [HPB.out, ← HA2.out]
    refine HCT.out.mono ?_
    rintro e w3 ⟨rfl, hB3⟩
    have T3 := Lib.hid (TA.out.trans (hB3.mono TA.out.size))
    have Zr : w.heap.size + 1 < A2.heap.size := Nat.lt_trans Z1.out ZP.out
    have b3 := kept hB3 (Nat.lt_trans (Nat.lt_succ_self _) Zr) ba.out
    have r30 := kept hB3 Zr ra0.out
    have r31 := kept hB3 Zr ra1.out
    have f30 := (hB3.frozen (p := ⟨w.heap.size + 1, 0, none⟩) Zr).trans fa0.out
    have f31 := (hB3.frozen (p := ⟨w.heap.size + 1, 1, none⟩) Zr).trans fa1.out
    have p31 := kept hB3 ZP.out P1.out
    have Z3 : w.heap.size + 1 < w3.heap.size := Nat.lt_of_lt_of_le Zr hB3.size
    have ZP3 : pb < w3.heap.size := Nat.lt_of_lt_of_le ZP.out hB3.size
    cases hk2 : okF c (L ++ [s]) with
    | false =>
      have hre := HR2.out HOK.out hk2
      simp only [Prod.mk.injEq] at hre
      obtain ⟨⟨rfl, rfl⟩, rfl⟩ := hre
      obtain ⟨e0, e1⟩ := res2 (.int .i16 0) (.slice none 0 0) r30 r31
      clear HR1 HR2 hB3 HK2 hk2
      go_wp2_with fail
      refine bodyPost_ret (by simp [results, Tryd.results12, go_sem, e0, e1]; try rfl) rfl ?_
      exact ⟨_, rfl, World.ownsRow_nil _ _ _ _, below_set (below_set T3.out (by omega) _) (by omega) _⟩
    | true =>
      have hre := HR1.out HOK.out hk2
      simp only [Prod.mk.injEq] at hre
      obtain ⟨⟨rfl, rfl⟩, rfl⟩ := hre
      have R3 : Hid (w3.ownsRow W0.heap.size 9 1 (.slice ra n rc) n (L.map Value.string)) := Lib.hid (by
        refine ⟨HRow.out.1, ?_⟩
        rcases HRow.out.2 with h2 | ⟨g, cap, cur, hv, hg, hh, x⟩
        · exact .inl h2
        · exact .inr ⟨g, cap, cur, hv, hg, by rw [hB3.block g (lt_of_block hh)]; exact hh, x⟩)
      have R4 : Hid ((w3.alloc (.cells #[.string s] 9)).drew.ownsRow W0.heap.size 9 1 (.slice ra n rc) n (L.map Value.string)) := Lib.hid (R3.out.alloc _)
      have N4 := Lib.hid (show ∀ j u, [Value.string s][j]? = some u → (w3.alloc (.cells #[.string s] 9)).drew.cell? ((⟨w3.heap.size, 0, none⟩ : Addr).add j) = some u from World.news_of_block (heap_alloc_new w3 _))
      have hb1 : ∀ k, (Value.slice ra n rc).ownBlock = some k → W0.heap.size ≤ k ∧ k < pb := HRB.out
      have A4 : Below w3.heap.size w3 (w3.alloc (.cells #[.string s] 9)).drew := ((Below.refl _ _).alloc (Nat.le_refl _) _).drew
      have hZ01 : W0.heap.size ≤ pb := Z01.out
      have hZ : w.heap.size + 1 < W0.heap.size := HZ.out
      have far : ∀ b : Nat, b < W0.heap.size → some b ≠ (Value.slice ra n rc).ownBlock := fun b hb e => by have := (hb1 b e.symm).1; omega
      have q0 : (w3.alloc (.cells #[.string s] 9)).cell? ⟨w.heap.size, 0, none⟩ = some (.int .i16 rcc) := kept ((Below.refl _ _).alloc (Nat.le_refl _) _) (by omega) b3
      have q1 : (w3.alloc (.cells #[.string s] 9)).cell? ⟨pb, 1, none⟩ = some (.slice ra n rc) := kept ((Below.refl _ _).alloc (Nat.le_refl _) _) ZP3 p31
      have Q0 := Lib.hid (show (w3.alloc (.cells #[.string s] 9)).drew.cell? ⟨w.heap.size, 0, none⟩ = some (.int .i16 rcc) from q0)
      have ZW := Lib.hid (show w.heap.size < (w3.alloc (.cells #[.string s] 9)).drew.heap.size from by simp; omega)
      have FW := Lib.hid (far w.heap.size (by omega))
      have FAR := Lib.hid far
      have A4' := Lib.hid A4
      have R30 := Lib.hid r30
      have R31 := Lib.hid r31
      have F30 := Lib.hid f30
      have F31 := Lib.hid f31
      have Z3' := Lib.hid Z3
      have ZP3' := Lib.hid ZP3
      have HH1 := Lib.hid hb1
      have HZ' := Lib.hid hZ
      have HZ01 := Lib.hid hZ01
      clear hB3 HR1 HR2 HK2 hk2 r30 r31 f30 f31 hb1 far A4 hZ01 hZ Zr
      go_wp2_with fail
      go_region_law (first
        | (rw [if_pos (by simp [Region.wanted])]; refine wp_append_own _ (.tmp 25) (.tmp 27) 23 (by rfl) W0.heap.size 9 i0 (.string ByteArray.empty) 1 16 Tryd.underlying23 hi hz0 hz1 hz2 (by rfl) (by omega) (.slice ra n rc) n (L.map Value.string) (by rfl) R4.out ⟨w3.heap.size, 0, none⟩ 1 1 [.string s] (by rfl) (by rfl) N4.out (str_oneI _) (by unfold maxLen; omega) (by omega) (by have := HZ01.out; have := ZP3'.out; simp; omega) ?_; intro v2 w4 hown4 hgrow4 _; have m0 := (hgrow4.cell_far ⟨w.heap.size + 1, 0, none⟩ (by simp; have := Z3'.out; omega) (FAR.out _ HZ'.out)).trans ((A4'.out.cell (p := ⟨w.heap.size + 1, 0, none⟩) Z3'.out).trans R30.out); have m1 := (hgrow4.cell_far ⟨w.heap.size + 1, 1, none⟩ (by simp; have := Z3'.out; omega) (FAR.out _ HZ'.out)).trans ((A4'.out.cell (p := ⟨w.heap.size + 1, 1, none⟩) Z3'.out).trans R31.out); have mf0 := (hgrow4.frozen_far ⟨w.heap.size + 1, 0, none⟩ (by simp; have := Z3'.out; omega) (FAR.out _ HZ'.out)).trans ((A4'.out.frozen (p := ⟨w.heap.size + 1, 0, none⟩) Z3'.out).trans F30.out); have mf1 := (hgrow4.frozen_far ⟨w.heap.size + 1, 1, none⟩ (by simp; have := Z3'.out; omega) (FAR.out _ HZ'.out)).trans ((A4'.out.frozen (p := ⟨w.heap.size + 1, 1, none⟩) Z3'.out).trans F31.out); have mq := (hgrow4.cell_far ⟨w.heap.size, 0, none⟩ ZW.out FW.out).trans Q0.out; obtain ⟨va, vn, vc, rfl⟩ := own_slice hown4)
        | fail)
      all_goals
        have HO4 := Lib.hid hown4
        have HT4 : Hid (Below w.heap.size w w4) := Lib.hid ((T3.out.trans (A4'.out.mono T3.out.size)).grown hgrow4 (by have := A4'.out.size; have := Z3'.out; omega) (fun k hk => by have := (HH1.out k hk).1; have := HZ'.out; omega))
        obtain ⟨e0, e1⟩ := res2 (.int .i16 rcc) (.slice va vn vc) m0 m1
        clear hown4 hgrow4 m0 m1 mf0 mf1 mq
        go_wp2_with fail
        refine bodyPost_ret (by simp [results, Tryd.results12, go_sem, e0, e1]; try rfl) rfl ?_
        refine ⟨_, rfl, ?_, below_set (below_set HT4.out (by omega) _) (by omega) _⟩
        refine OwnT.mono (base := W0.heap.size) (ownsRow_setCell_below (ownsRow_setCell_below ?_ (by simpa using HZ'.out) _) (by simpa using HZ'.out) _) (by have := HZ'.out; omega)
        have h := HO4.out
        rw [show (L ++ [s]).length = n + 1 by rw [List.length_append, ← HLN.out]; rfl, List.map_append]
        exact h
end Go.Proofs.YtilbadnnmhcdoaaDoor
