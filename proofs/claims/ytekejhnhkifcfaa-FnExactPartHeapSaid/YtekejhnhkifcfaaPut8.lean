/-
  No statement is proved here: storing what lies there changes nothing; eight cells stored one behind the other; no condition.
-/
import Derived.Test.YtekejhnhkifcfaaHeapX
namespace Go.Proofs.Ytekejhnhkifcfaa
open Go.RowKit

theorem setCell_id {w : World} {b o : Nat} {v : Value} (h : w.cell? ⟨b, o, none⟩ = some v) : w.setCell ⟨b, o, none⟩ v = w := by
  have e : (w.setCell ⟨b, o, none⟩ v).heap = w.heap := by
    unfold World.setCell
    apply Array.ext
    · simp
    · intro i h1 h2
      simp only [Array.getElem_modify]
      split
      · next hb =>
        subst hb
        unfold World.cell? at h
        simp only [Array.getElem?_eq_getElem h2] at h
        split
        · next c t f hc =>
          rw [hc] at h
          simp at h ⊢
          obtain ⟨hlt, hv⟩ := Array.getElem?_eq_some_iff.1 h
          rw [hc]
          congr 1
          apply Array.ext
          · simp
          · intro j hj1 hj2
            rw [Array.getElem_setIfInBounds (by simpa using hj1)]
            split
            · next e => subst e; exact hv.symm
            · rfl
        · rfl
      · rfl
  have : w.setCell ⟨b, o, none⟩ v = { w with heap := (w.setCell ⟨b, o, none⟩ v).heap } := rfl
  rw [this, e]
theorem res8P {wr : World} {rb : Nat} {a0 a1 a2 a3 a4 a5 a6 a7 : Value} (x0 x1 x2 x3 x4 x5 x6 x7 : Value) (h0 : wr.cell? ⟨rb, 0, none⟩ = some a0) (h1 : wr.cell? ⟨rb, 1, none⟩ = some a1) (h2 : wr.cell? ⟨rb, 2, none⟩ = some a2) (h3 : wr.cell? ⟨rb, 3, none⟩ = some a3) (h4 : wr.cell? ⟨rb, 4, none⟩ = some a4) (h5 : wr.cell? ⟨rb, 5, none⟩ = some a5) (h6 : wr.cell? ⟨rb, 6, none⟩ = some a6) (h7 : wr.cell? ⟨rb, 7, none⟩ = some a7) :
    (wr.setCell ⟨rb, 0, none⟩ x0).cell? ⟨rb, 0, none⟩ = some x0 ∧ ((wr.setCell ⟨rb, 0, none⟩ x0).setCell ⟨rb, 1, none⟩ x1).cell? ⟨rb, 1, none⟩ = some x1 ∧ (((wr.setCell ⟨rb, 0, none⟩ x0).setCell ⟨rb, 1, none⟩ x1).setCell ⟨rb, 2, none⟩ x2).cell? ⟨rb, 2, none⟩ = some x2 ∧ ((((wr.setCell ⟨rb, 0, none⟩ x0).setCell ⟨rb, 1, none⟩ x1).setCell ⟨rb, 2, none⟩ x2).setCell ⟨rb, 3, none⟩ x3).cell? ⟨rb, 3, none⟩ = some x3 ∧ (((((wr.setCell ⟨rb, 0, none⟩ x0).setCell ⟨rb, 1, none⟩ x1).setCell ⟨rb, 2, none⟩ x2).setCell ⟨rb, 3, none⟩ x3).setCell ⟨rb, 4, none⟩ x4).cell? ⟨rb, 4, none⟩ = some x4 ∧ ((((((wr.setCell ⟨rb, 0, none⟩ x0).setCell ⟨rb, 1, none⟩ x1).setCell ⟨rb, 2, none⟩ x2).setCell ⟨rb, 3, none⟩ x3).setCell ⟨rb, 4, none⟩ x4).setCell ⟨rb, 5, none⟩ x5).cell? ⟨rb, 5, none⟩ = some x5 ∧ (((((((wr.setCell ⟨rb, 0, none⟩ x0).setCell ⟨rb, 1, none⟩ x1).setCell ⟨rb, 2, none⟩ x2).setCell ⟨rb, 3, none⟩ x3).setCell ⟨rb, 4, none⟩ x4).setCell ⟨rb, 5, none⟩ x5).setCell ⟨rb, 6, none⟩ x6).cell? ⟨rb, 6, none⟩ = some x6 ∧ ((((((((wr.setCell ⟨rb, 0, none⟩ x0).setCell ⟨rb, 1, none⟩ x1).setCell ⟨rb, 2, none⟩ x2).setCell ⟨rb, 3, none⟩ x3).setCell ⟨rb, 4, none⟩ x4).setCell ⟨rb, 5, none⟩ x5).setCell ⟨rb, 6, none⟩ x6).setCell ⟨rb, 7, none⟩ x7).cell? ⟨rb, 7, none⟩ = some x7 :=
  ⟨World.cell?_setCell_same _ _ _ h0, World.cell?_setCell_same _ _ _ ((World.cell?_setCell_other _ _ _ _ (by simp)).trans h1), World.cell?_setCell_same _ _ _ ((World.cell?_setCell_other _ _ _ _ (by simp)).trans ((World.cell?_setCell_other _ _ _ _ (by simp)).trans h2)), World.cell?_setCell_same _ _ _ ((World.cell?_setCell_other _ _ _ _ (by simp)).trans ((World.cell?_setCell_other _ _ _ _ (by simp)).trans ((World.cell?_setCell_other _ _ _ _ (by simp)).trans h3))), World.cell?_setCell_same _ _ _ ((World.cell?_setCell_other _ _ _ _ (by simp)).trans ((World.cell?_setCell_other _ _ _ _ (by simp)).trans ((World.cell?_setCell_other _ _ _ _ (by simp)).trans ((World.cell?_setCell_other _ _ _ _ (by simp)).trans h4)))), World.cell?_setCell_same _ _ _ ((World.cell?_setCell_other _ _ _ _ (by simp)).trans ((World.cell?_setCell_other _ _ _ _ (by simp)).trans ((World.cell?_setCell_other _ _ _ _ (by simp)).trans ((World.cell?_setCell_other _ _ _ _ (by simp)).trans ((World.cell?_setCell_other _ _ _ _ (by simp)).trans h5))))), World.cell?_setCell_same _ _ _ ((World.cell?_setCell_other _ _ _ _ (by simp)).trans ((World.cell?_setCell_other _ _ _ _ (by simp)).trans ((World.cell?_setCell_other _ _ _ _ (by simp)).trans ((World.cell?_setCell_other _ _ _ _ (by simp)).trans ((World.cell?_setCell_other _ _ _ _ (by simp)).trans ((World.cell?_setCell_other _ _ _ _ (by simp)).trans h6)))))), World.cell?_setCell_same _ _ _ ((World.cell?_setCell_other _ _ _ _ (by simp)).trans ((World.cell?_setCell_other _ _ _ _ (by simp)).trans ((World.cell?_setCell_other _ _ _ _ (by simp)).trans ((World.cell?_setCell_other _ _ _ _ (by simp)).trans ((World.cell?_setCell_other _ _ _ _ (by simp)).trans ((World.cell?_setCell_other _ _ _ _ (by simp)).trans ((World.cell?_setCell_other _ _ _ _ (by simp)).trans h7)))))))⟩
theorem HeapAt.set1 {w : World} {b i : Nat} {z z' : Nat → Int} (H : HeapAt w b 0 z) (hi : i < 8) (e : ∀ k, k < 8 → k ≠ i → z k = z' k) : HeapAt (w.setCell ⟨b, i, none⟩ (.int .i32 (z' i))) b 0 z' := fun j hj => by
  rw [Nat.zero_add]
  by_cases h : j = i
  · subst h
    have := H j hj
    rw [Nat.zero_add] at this
    exact World.cell?_setCell_same _ _ _ this
  · rw [← e j hj h]
    have := H j hj
    rw [Nat.zero_add] at this
    exact (World.cell?_setCell_other _ _ _ _ (by intro e; have e2 := congrArg Addr.off e; simp only at e2; omega)).trans this
theorem HeapAt.other {w : World} {b c i : Nat} {z : Nat → Int} (H : HeapAt w b 0 z) (hne : c ≠ b) (v : Value) : HeapAt (w.setCell ⟨c, i, none⟩ v) b 0 z := fun j hj => (World.cell?_setCell_other _ _ _ _ (by intro e; exact hne (congrArg Addr.block e))).trans (H j hj)
end Go.Proofs.Ytekejhnhkifcfaa
