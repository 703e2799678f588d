/-
  No statement is proved here: slices of texts, that came in or that the call itself made; no condition.
-/
import Derived.Test.YtcgcaghmpegehaaDoorStr0
import Derived.SliceStrings
import Derived.Lib.SmallJoins
namespace Go.Proofs.YtcgcaghmpegehaaDoor
open Go.ChangeShapes Go.WideShapes Go.ChangeAt Go.RowKit


set_option maxRecDepth 100000 in
theorem open_texts {H : Type} {enc : TypeId × Value → H} {w : World} {v : Value} {x : DataW H × List MemPlace} {n : Nat} (hf : DataW.trod enc Tryd.prog w 0 (fun _ => true) true n 23 [v] = some x) : ∃ L, Strs w v L ∧ L.length ≤ maxLen ∧ ∀ j, j < L.length → (L.getD j ByteArray.empty).size ≤ maxLen := by
  have hlt := DataW.trod_lt n _ _ _ hf
  rcases open_strings Tryd.underlying23 Tryd.underlying9 (by kernel_rfl) hf with ⟨hcs, hx⟩ | ⟨a, len, cap, zs, hcs, _, hl, hm, hz, hx, hcell, hwz⟩
  · simp at hcs
    exact ⟨[], .inl ⟨none, 0, hcs, rfl⟩, by decide, fun j hj => absurd hj (Nat.not_lt_zero j)⟩
  · simp only [if_true] at hz
    simp only [List.cons.injEq, and_true] at hcs
    by_cases hl0 : len = 0
    · subst hl0
      exact ⟨[], .inl ⟨some a, cap, hcs, rfl⟩, by decide, fun j hj => absurd hj (Nat.not_lt_zero j)⟩
    · obtain ⟨b, off, spot⟩ := a
      have hspot : spot = none := by simpa [Addr.add] using World.cell?_spot (hcell 0 (by omega))
      subst hspot
      have hbW : b < w.heap.size := hlt (.cell b off) (by rw [hx]; exact MemPlace.mem_row.2 ⟨0, by omega, by simp⟩)
      have hlen : (zs.take len).length = len := by rw [List.length_take]; omega
      have hg : ∀ j, j < len → (zs.take len).getD j ByteArray.empty = zs.getD j ByteArray.empty := fun j hj => by
        simp [List.getD, List.getElem?_take]
        rw [if_pos (by omega)]
      refine ⟨zs.take len, .inr ⟨b, off, cap, ?_, by omega, hbW, fun j hj => ?_⟩, by omega, fun j hj => ?_⟩
      · rw [hlen]
        exact hcs
      · rw [← add_plain, hcell j (by omega), hg j (by omega)]
      · rw [hg j (by omega)]
        refine hwz _ ?_
        have hj2 : j < zs.length := by
          have := zs.length_take_le len
          rw [List.length_take] at hj
          omega
        rw [List.getD, List.getElem?_eq_getElem hj2]
        exact List.getElem_mem hj2

set_option maxRecDepth 100000 in
/-- What the outside hands in as a fabric. -/
theorem open_fabric {H : Type} {enc : TypeId × Value → H} {w : World} {r : Reach} {v : Value} {d : DataW H} {p : List MemPlace} {base : Nat} (o : Value.okWide Tryd.prog w r base 25 v) (k : DataW.Trod enc Tryd.prog w 0 (fun _ => true) true 25 v d p) : ∃ (c : Int) (s : Value) (L : List ByteArray), v = .agg #[.int .i16 c, s] ∧ (-32768 ≤ c ∧ c ≤ 32767) ∧ Strs w s L ∧ L.length ≤ maxLen ∧ ∀ j, j < L.length → (L.getD j ByteArray.empty).size ≤ maxLen := by
  obtain ⟨v0, v1, y0, y1, n, rfl, _, _, h0, h1⟩ := Go.Joins.open_agg2 Tryd.underlying25 (by kernel_rfl) (by kernel_rfl) o k
  obtain ⟨c, hc, _, hwf⟩ := DataW.trod_int Tryd.underlying22 h0
  obtain ⟨L, hL⟩ := open_texts h1
  simp only [List.cons.injEq, and_true] at hc
  subst hc
  have h2 : IntKind.i16.has c := by simpa [Lit.wf, IntKind.has] using hwf
  exact ⟨c, v1, L, rfl, h2, hL⟩

end Go.Proofs.YtcgcaghmpegehaaDoor
