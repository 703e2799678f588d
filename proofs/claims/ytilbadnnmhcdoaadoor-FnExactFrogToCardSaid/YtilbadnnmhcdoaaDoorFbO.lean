/-
  No statement is proved here: a copy of a fabric's first rows, in the document's own text, and the library's Clone at texts; condition: at most 1048576 texts.
-/
import Derived.Test.YtilbadnnmhcdoaaDoorFabL
import Derived.Test.YtilbadnnmhcdoaaDoorKnitL
import Derived.Deep.RegionWith
import Derived.Deep.RegionHeld3
import Derived.Deep.RegionLaw
import Derived.Deep.AppendLies
import Derived.Laws.OwnMore
namespace Go.Proofs.YtilbadnnmhcdoaaDoor
open Go.ChangeShapes Go.WideShapes Go.ChangeAt Go.RowKit

/-- Texts whose slice has room for them. -/
def StrsC (w : World) (v : Value) (L : List ByteArray) : Prop := Strs w v L ∧ ((v = .slice none 0 0 ∧ L = []) ∨ ∃ ad c, v = .slice (some ad) L.length c ∧ L.length ≤ c)
theorem strsC_of {w : World} {base : Nat} {v : Value} {zs : List ByteArray} (h : OwnT w base v zs) : StrsC w v zs := by
  refine ⟨h.strs, ?_⟩
  rcases h.2 with ⟨e, hn⟩ | ⟨g, cap, cur, e, hb, hg, hle, _⟩
  · exact .inl ⟨e, List.length_eq_zero_iff.1 hn⟩
  · exact .inr ⟨_, _, e, hle⟩
theorem StrsC.below {w w' : World} {v : Value} {zs : List ByteArray} (h : StrsC w v zs) (hB : Below w.heap.size w w') : StrsC w' v zs := ⟨h.1.below hB, h.2⟩
theorem txt_one (zs : List ByteArray) : ∀ u ∈ zs.map Value.string, u.oneCell' = true := by
  intro u hu
  obtain ⟨z, _, rfl⟩ := List.mem_map.1 hu
  rfl
theorem txt_news {w : World} {b off : Nat} {L : List ByteArray} (hc : ∀ j, j < L.length → w.cell? ⟨b, off + j, none⟩ = some (.string (L.getD j ByteArray.empty))) (k : Nat) : ∀ j u, ((L.take k).map Value.string)[j]? = some u → w.cell? ((⟨b, off, none⟩ : Addr).add j) = some u := by
  intro j u hu
  have hj : j < (L.take k).length := by
    rcases Nat.lt_or_ge j (L.take k).length with h | h
    · exact h
    · rw [List.getElem?_eq_none (by simpa using h)] at hu; simp at hu
  rw [List.length_take] at hj
  rw [add_plain, hc j (by omega)]
  simp [List.getElem?_map, show j < k by omega] at hu
  obtain ⟨z, hz, rfl⟩ := hu
  rw [List.getD, hz]
  rfl
theorem res2 {wr : World} {rb : Nat} {a b : Value} (x y : Value) (h0 : wr.cell? ⟨rb, 0, none⟩ = some a) (h1 : wr.cell? ⟨rb, 1, none⟩ = some b) :
    (wr.setCell ⟨rb, 0, none⟩ x).cell? ⟨rb, 0, none⟩ = some x ∧ ((wr.setCell ⟨rb, 0, none⟩ x).setCell ⟨rb, 1, none⟩ y).cell? ⟨rb, 1, none⟩ = some y :=
  ⟨World.cell?_setCell_same _ _ _ h0, World.cell?_setCell_same _ _ _ ((World.cell?_setCell_other _ _ _ _ (by simp)).trans h1)⟩
theorem own_slice {w : World} {base n : Nat} {v : Value} {e : TypeId} {size : Nat} {xs : List Value} (h : w.ownsRow base e size v n xs) : ∃ a n' c, v = .slice a n' c := by
  rcases h.2 with ⟨rfl, _⟩ | ⟨g, cap, cur, rfl, _⟩
  · exact ⟨_, _, _, rfl⟩
  · exact ⟨_, _, _, rfl⟩
theorem grown_alO {w w' : World} {o : Obj} {row : Option Nat} (h : (w.alloc o).grownBy w' row) : w.grownBy w' row :=
  ⟨h.os, h.tape, h.output, Nat.le_trans (by simp) h.size, fun i hi hne => (h.block i (by simp; omega) hne).trans (Below.heap_alloc w o i hi)⟩

set_option maxRecDepth 100000 in
set_option maxHeartbeats 4000000 in
theorem specOwn_any (b : Nat) (c : Int) (k : Nat) (v : Value) (L : List ByteArray) (w : World) (c0 : w.cell? ⟨b, 0, none⟩ = some (.int .i16 c)) (c1 : w.cell? ⟨b, 1, none⟩ = some v)
    (hC : StrsC w v L) (hk : k ≤ L.length) (hn : L.length ≤ 1048576) :
    Calls Tryd.prog 32 #[.pointer (some ⟨b, 0, none⟩), .int .i64 k] w fun e w' => ∃ r, e = .returned (.agg #[.int .i16 c, r]) ∧ OwnT w' w.heap.size r (L.take k) ∧ Below w.heap.size w w' := by
  obtain ⟨i0, hi, hz0, hz1, hz2⟩ := info_parts infoStr
  have hb := World.block_lt_of_cell? w _ c0
  obtain ⟨h, hv⟩ := hC
  rcases hv with ⟨rfl, rfl⟩ | ⟨ad, cap, rfl, hcap⟩
  · obtain rfl : k = 0 := by simpa using hk
    clear h hk
    have A0 : Below w.heap.size w (w.alloc (.cells #[.int .i16 0, .slice none 0 0] 27)) := (Below.refl _ _).alloc (Nat.le_refl _) _
    have hap : ∀ (g : Nat) (wx : World), (Builtin.append_ #[23, 23] 23 #[.slice (some ⟨g, 0, none⟩) 0 0, .slice none 0 0]).run Tryd.prog wx = .ok (.slice (some ⟨g, 0, none⟩) 0 0) wx := fun g wx => by
      simp [Builtin.append_, run_underlying Tryd.underlying23, sizeOf, typeInfo, hi, Builtin.lenOf, Builtin.firstCells, storeCells]
    obtain ⟨W0, hW0⟩ : ∃ W0, W0 = w.alloc (.cells #[.int .i16 0, .slice none 0 0] 27) := ⟨_, rfl⟩
    have p0 := kept (hW0 ▸ A0) hb c0
    have p1 := kept (hW0 ▸ A0) hb c1
    rw [← hW0] at A0
    have hz : w.heap.size < W0.heap.size := by rw [hW0]; simp
    have hb0 := Nat.lt_of_lt_of_le hb A0.size
    have A1 : Below W0.heap.size W0 (W0.alloc (.cells #[] 9)) := (Below.refl _ _).alloc (Nat.le_refl _) _
    have q0 := kept A1 hb0 p0
    have q1 := kept A1 hb0 p1
    have r0 : (W0.alloc (.cells #[] 9)).cell? ⟨w.heap.size, 0, none⟩ = some (.int .i16 0) := kept A1 hz (by rw [hW0]; simp [go_sem])
    have r1 : (W0.alloc (.cells #[] 9)).cell? ⟨w.heap.size, 1, none⟩ = some (.slice none 0 0) := kept A1 hz (by rw [hW0]; simp [go_sem])
    have rf0 : (W0.alloc (.cells #[] 9)).frozen? ⟨w.heap.size, 0, none⟩ = false := (A1.frozen (p := ⟨w.heap.size, 0, none⟩) hz).trans (by rw [hW0]; simp [go_sem])
    have rf1 : (W0.alloc (.cells #[] 9)).frozen? ⟨w.heap.size, 1, none⟩ = false := (A1.frozen (p := ⟨w.heap.size, 1, none⟩) hz).trans (by rw [hW0]; simp [go_sem])
    have HZ := Lib.hid hz
    have R0 := Lib.hid r0
    have R1 := Lib.hid r1
    have HT2 := Lib.hid ((A0.trans (A1.mono A0.size)).drew)
    have OE : Hid ((W0.alloc (.cells #[] 9)).drew.ownsRow W0.heap.size 9 1 (.slice (some ⟨W0.heap.size, 0, none⟩) 0 0) 0 []) := Lib.hid (World.ownsRow_made (base := W0.heap.size) (e := 9) (size := 1) W0 #[] 0 (Nat.le_refl _) (by decide) rfl)
    have HW0 := Lib.hid hW0
    clear hW0 A0 A1 c0 c1 hb hb0 hz
    go_enter Tryd.func32, Tryd.ntmps32
    go_wp2_with fail
    rw [← HW0.out]
    go_region
    all_goals
      obtain ⟨e0, e1⟩ := res2 (.int .i16 c) (.slice (some ⟨W0.heap.size, 0, none⟩) 0 0) R0.out R1.out
      go_wp2_with fail
      refine bodyPost_ret (by simp [results, Tryd.results32, go_sem, e0, e1]; try rfl) rfl ?_
      refine ⟨_, rfl, OwnT.mono (base := W0.heap.size) (ownsRow_setCell_below (ownsRow_setCell_below OE.out (by simpa using HZ.out) _) (by simpa using HZ.out) _) (Nat.le_of_lt HZ.out), below_set (below_set HT2.out (Nat.le_refl _) _) (Nat.le_refl _) _⟩
  · obtain ⟨n, hln⟩ : ∃ n, n = L.length := ⟨_, rfl⟩
    have HLT : Hid ((L.take k).length = k) := Lib.hid (by rw [List.length_take]; omega)
    have hnews : ∀ j u, ((L.take k).map Value.string)[j]? = some u → w.cell? (ad.add j) = some u := by
      rcases h with ⟨a', c', e, rfl⟩ | ⟨b', off, c', e, h0, hb', hc⟩
      · intro j u hu
        simp at hu
      · simp only [Value.slice.injEq, Option.some.injEq] at e
        obtain ⟨rfl, _, _⟩ := e
        exact txt_news hc k
    rw [← hln] at hk hcap hn c1
    clear hln h
    have A0 : Below w.heap.size w (w.alloc (.cells #[.int .i16 0, .slice none 0 0] 27)) := (Below.refl _ _).alloc (Nat.le_refl _) _
    have HN := Lib.hid fun W (hW : Below w.heap.size w W) j u (hu : ((L.take k).map Value.string)[j]? = some u) => (hW.cell (p := ad.add j) (World.block_lt_of_cell? w _ (hnews j u hu))).trans (hnews j u hu)
    obtain ⟨W0, hW0⟩ : ∃ W0, W0 = w.alloc (.cells #[.int .i16 0, .slice none 0 0] 27) := ⟨_, rfl⟩
    have p0 := kept (hW0 ▸ A0) hb c0
    have p1 := kept (hW0 ▸ A0) hb c1
    rw [← hW0] at A0
    have r0 : W0.cell? ⟨w.heap.size, 0, none⟩ = some (.int .i16 0) := by rw [hW0]; simp [go_sem]
    have r1 : W0.cell? ⟨w.heap.size, 1, none⟩ = some (.slice none 0 0) := by rw [hW0]; simp [go_sem]
    have rf0 : W0.frozen? ⟨w.heap.size, 0, none⟩ = false := by rw [hW0]; simp [go_sem]
    have rf1 : W0.frozen? ⟨w.heap.size, 1, none⟩ = false := by rw [hW0]; simp [go_sem]
    have hz : w.heap.size < W0.heap.size := by rw [hW0]; simp
    have A1 : Below W0.heap.size W0 (W0.alloc (.cells #[] 9)).drew := ((Below.refl _ _).alloc (Nat.le_refl _) _).drew
    have R0 := Lib.hid r0
    have R1 := Lib.hid r1
    have RF0 := Lib.hid rf0
    have RF1 := Lib.hid rf1
    have HZ := Lib.hid hz
    have T0 := Lib.hid A0
    have T1 := Lib.hid A1
    have OE : Hid ((W0.alloc (.cells #[] 9)).drew.ownsRow W0.heap.size 9 1 (.slice (some ⟨W0.heap.size, 0, none⟩) 0 0) 0 []) := Lib.hid (World.ownsRow_made (base := W0.heap.size) (e := 9) (size := 1) W0 #[] 0 (Nat.le_refl _) (by decide) rfl)
    have HLM := Lib.hid (show ((L.take k).map Value.string).length = k * 1 by rw [List.length_map, HLT.out, Nat.mul_one])
    have HOn := Lib.hid (txt_one (L.take k))
    have k1 : (0 : Int) ≤ (k : Int) := by omega
    have k2 : (k : Int) ≤ (cap : Int) := by omega
    have hb0 := Nat.lt_of_lt_of_le hb T0.out.size
    have q0 : (W0.alloc (.cells #[] 9)).cell? ⟨b, 0, none⟩ = some (.int .i16 c) := kept ((Below.refl _ _).alloc (Nat.le_refl _) _) hb0 p0
    have q1 : (W0.alloc (.cells #[] 9)).cell? ⟨b, 1, none⟩ = some (.slice (some ad) n cap) := kept ((Below.refl _ _).alloc (Nat.le_refl _) _) hb0 p1
    have HB0 := Lib.hid hb0
    have Q0 := Lib.hid q0
    have HW0 := Lib.hid hW0
    clear hb0 hnews hW0 A0 A1 c0 c1 hb r0 r1 rf0 rf1 hz
    go_enter Tryd.func32, Tryd.ntmps32
    go_wp2_with fail
    rw [← HW0.out]
    go_region_law (first
      | (rw [if_pos (by simp [Region.wanted])]; refine wp_append_own _ (.tmp 9) (.tmp 15) 23 (by rfl) W0.heap.size 9 i0 (.string ByteArray.empty) 1 16 Tryd.underlying23 hi hz0 hz1 hz2 (by rfl) (by omega) (.slice (some ⟨W0.heap.size, 0, none⟩) 0 0) 0 [] (by rfl) OE.out ad k cap ((L.take k).map Value.string) (by rfl) HLM.out (HN.out _ (T0.out.trans (T1.out.mono T0.out.size))) HOn.out (by unfold maxLen; omega) (by omega) (by simp) ?_; intro v2 w2 hown2 hgrow2 _; have m0 := (hgrow2.cell_far ⟨w.heap.size, 0, none⟩ (by simp; have := HZ.out; omega) (by simp [Value.ownBlock]; have := HZ.out; omega)).trans ((T1.out.cell (p := ⟨w.heap.size, 0, none⟩) HZ.out).trans R0.out); have m1 := (hgrow2.cell_far ⟨w.heap.size, 1, none⟩ (by simp; have := HZ.out; omega) (by simp [Value.ownBlock]; have := HZ.out; omega)).trans ((T1.out.cell (p := ⟨w.heap.size, 1, none⟩) HZ.out).trans R1.out); have mf0 := (hgrow2.frozen_far ⟨w.heap.size, 0, none⟩ (by simp; have := HZ.out; omega) (by simp [Value.ownBlock]; have := HZ.out; omega)).trans ((T1.out.frozen (p := ⟨w.heap.size, 0, none⟩) HZ.out).trans RF0.out); have mf1 := (hgrow2.frozen_far ⟨w.heap.size, 1, none⟩ (by simp; have := HZ.out; omega) (by simp [Value.ownBlock]; have := HZ.out; omega)).trans ((T1.out.frozen (p := ⟨w.heap.size, 1, none⟩) HZ.out).trans RF1.out); have mq := (hgrow2.cell_far ⟨b, 0, none⟩ (by simp; have := HB0.out; omega) (by simp [Value.ownBlock]; have := HB0.out; omega)).trans (show (W0.alloc (.cells #[] 9)).drew.cell? ⟨b, 0, none⟩ = _ from Q0.out); obtain ⟨va, vn, vc, rfl⟩ := own_slice hown2)
      | fail)
    all_goals
      have HO2 := Lib.hid hown2
      have HT2 : Hid (Below w.heap.size w w2) := Lib.hid ((T0.out.trans (T1.out.mono T0.out.size)).grown hgrow2 (by have := T1.out.size; have := HZ.out; omega) (fun k hk => by have e : W0.heap.size = k := Option.some.inj hk; have := HZ.out; omega))
      obtain ⟨e0, e1⟩ := res2 (.int .i16 c) (.slice va vn vc) m0 m1
      clear hown2 hgrow2 m0 m1 mf0 mf1 mq
      go_wp2_with fail
      refine bodyPost_ret (by simp [results, Tryd.results32, go_sem, e0, e1]; try rfl) rfl ?_
      refine ⟨_, rfl, ?_, below_set (below_set HT2.out (Nat.le_refl _) _) (Nat.le_refl _) _⟩
      refine OwnT.mono (base := W0.heap.size) (ownsRow_setCell_below (ownsRow_setCell_below ?_ (by simpa using HZ.out) _) (by simpa using HZ.out) _) (Nat.le_of_lt HZ.out)
      have h := HO2.out
      rw [Nat.zero_add, List.nil_append] at h
      rw [HLT.out]
      exact h
end Go.Proofs.YtilbadnnmhcdoaaDoor
