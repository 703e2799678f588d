/-
  No statement is proved here: what TakeLongest keeps between two rounds of its loop over the lengths, whatever lengths have come; no condition.
-/
import Derived.Test.YtekejhnhkifcfaaTkI
import Derived.Test.YtekejhnhkifcfaaSet8
namespace Go.Proofs.Ytekejhnhkifcfaa
open Go.RowKit Go.Shelf

/-- One round: what is still to take, what has been taken, what is left. -/
def stp (z : Nat → Int) (s : Int × (Nat → Int) × (Nat → Int)) (x : Fin 8) : Int × (Nat → Int) × (Nat → Int) :=
  (s.1 - min (z x.val) s.1, (fun j => if j = x.val then s.2.1 j + min (z x.val) s.1 else s.2.1 j), (fun j => if j = x.val then s.2.2 j - min (z x.val) s.1 else s.2.2 j))
def stT (z : Nat → Int) (g : Int) (pre : List (Fin 8)) : Int × (Nat → Int) × (Nat → Int) := pre.foldl (stp z) (g, zeroH, z)
theorem stT_snoc (z : Nat → Int) (g : Int) (pre : List (Fin 8)) (x : Fin 8) : stT z g (pre ++ [x]) = stp z (stT z g pre) x := by
  unfold stT
  rw [List.foldl_append]
  rfl
def bdT (g : Int) (n : Int) (s : Int × (Nat → Int) × (Nat → Int)) : Prop := (0 ≤ s.1 ∧ s.1 ≤ g) ∧ ∀ j, j < 8 → (0 ≤ s.2.1 j ∧ s.2.1 j ≤ 1000 * n) ∧ -(1000 * n) ≤ s.2.2 j ∧ s.2.2 j ≤ 1000
theorem stp_bd {z : Nat → Int} {g n : Int} {s : Int × (Nat → Int) × (Nat → Int)} (hok : okH z = true) (h : bdT g n s) (x : Fin 8) : bdT g (n + 1) (stp z s x) := by
  obtain ⟨⟨h1, h2⟩, h3⟩ := h
  have b := okH_of hok x.val x.isLt
  refine ⟨⟨?_, ?_⟩, fun j hj => ?_⟩
  · simp only [stp]; omega
  · simp only [stp]; omega
  · have := h3 j hj
    simp only [stp]
    split <;> omega
theorem stT_bd {z : Nat → Int} {g : Int} (hok : okH z = true) (hg : 0 ≤ g) : ∀ pre : List (Fin 8), bdT g pre.length (stT z g pre) := by
  have key : ∀ (pre : List (Fin 8)) (n : Int) s, bdT g n s → bdT g (n + pre.length) (pre.foldl (stp z) s) := by
    intro pre
    induction pre with
    | nil => intro n s h; simpa using h
    | cons x xs ih =>
      intro n s h
      have := ih (n + 1) _ (stp_bd hok h x)
      simp only [List.foldl_cons, List.length_cons]
      have e : n + ((xs.length + 1 : Nat) : Int) = n + 1 + (xs.length : Int) := by push_cast; omega
      rw [e]
      exact this
  intro pre
  have := key pre 0 (g, zeroH, z) ⟨⟨hg, Int.le_refl _⟩, fun j hj => by have b := okH_of hok j hj; simp only [zeroH]; omega⟩
  rw [Int.zero_add] at this
  exact this
theorem stT_dn (z : Nat → Int) (g : Int) : ∀ k, k ≤ 8 → (stT z g (dn k)).1 = remT z g k ∧ ∀ j, j < 8 → (stT z g (dn k)).2.1 j = tkn z g k j ∧ (stT z g (dn k)).2.2 j = lft z g k j
  | 0, _ => ⟨rfl, fun j hj => ⟨(tkn_zero z g hj).symm, (lft_zero z g hj).symm⟩⟩
  | k + 1, hk => by
    obtain ⟨i1, i2⟩ := stT_dn z g k (by omega)
    have hs : stT z g (dn (k + 1)) = stp z (stT z g (dn k)) ⟨7 - k, by omega⟩ := stT_snoc z g _ _
    rw [hs]
    refine ⟨?_, fun j hj => ?_⟩
    · simp only [stp]
      rw [i1, remT_step]
      omega
    · obtain ⟨a, b⟩ := i2 j hj
      simp only [stp]
      by_cases h : j = 7 - k
      · subst h
        rw [if_pos rfl, if_pos rfl, a, b, i1, tkn_new z g (by omega), lft_new z g (by omega), tkn_old z g (by omega), lft_old z g (by omega)]
        omega
      · rw [if_neg h, if_neg h, a, b]
        exact ⟨tkn_other z g (by omega) hj h, lft_other z g (by omega) hj h⟩
/-- The boxes of the loop: the grams still to take, what has been taken, what is left; the answers' own boxes are as they were. -/
def TT (w : World) (Bg B : Nat) (s : Int × (Nat → Int) × (Nat → Int)) (W : World) : Prop :=
  (W.cell? ⟨Bg, 0, none⟩ = some (.int .i64 s.1) ∧ W.frozen? ⟨Bg, 0, none⟩ = false) ∧ (HeapAt W B 0 s.2.1 ∧ ∀ o : Nat, o < 8 → W.frozen? ⟨B, o, none⟩ = false) ∧ (HeapAt W (B + 1) 0 s.2.2 ∧ ∀ o : Nat, o < 8 → W.frozen? ⟨B + 1, o, none⟩ = false) ∧
  (HeapAt W (w.heap.size + 2) 0 zeroH ∧ ∀ o : Nat, o < 8 → W.frozen? ⟨w.heap.size + 2, o, none⟩ = false) ∧ (HeapAt W (w.heap.size + 3) 0 zeroH ∧ ∀ o : Nat, o < 8 → W.frozen? ⟨w.heap.size + 3, o, none⟩ = false)
theorem heap_kept {W W' : World} {row : Option Nat} {b : Nat} {z : Nat → Int} (h : HeapAt W b 0 z ∧ ∀ o : Nat, o < 8 → W.frozen? ⟨b, o, none⟩ = false) (hg : W.grownBy W' row) (hr : ∀ r, row = some r → ∃ o : Obj, W.heap[r]? = some o ∧ o.isCells = false) : HeapAt W' b 0 z ∧ ∀ o : Nat, o < 8 → W'.frozen? ⟨b, o, none⟩ = false :=
  ⟨fun k hk => cell_kept (h.1 k hk) hg hr, fun o ho => (frozen_kept (by have := h.1 o ho; rwa [Nat.zero_add] at this) hg hr).trans (h.2 o ho)⟩
theorem TT_own {β : Type} (w : World) (Bg B : Nat) (f : β → Int × (Nat → Int) × (Nat → Int)) : Own (fun s => TT w Bg B (f s)) := fun _ _ _ _ hs hg hr => by
  obtain ⟨h1, h2, h3, h4, h5⟩ := hs
  exact ⟨⟨cell_kept h1.1 hg hr, (frozen_kept h1.1 hg hr).trans h1.2⟩, heap_kept h2 hg hr, heap_kept h3 hg hr, heap_kept h4 hg hr, heap_kept h5 hg hr⟩
theorem heap_set {W : World} {b c i : Nat} {z : Nat → Int} (h : HeapAt W b 0 z ∧ ∀ o : Nat, o < 8 → W.frozen? ⟨b, o, none⟩ = false) (hne : c ≠ b) (v : Value) : HeapAt (W.setCell ⟨c, i, none⟩ v) b 0 z ∧ ∀ o : Nat, o < 8 → (W.setCell ⟨c, i, none⟩ v).frozen? ⟨b, o, none⟩ = false :=
  ⟨h.1.other hne v, fun o ho => by rw [World.frozen?_setCell]; exact h.2 o ho⟩
theorem heap_put {W : World} {b i : Nat} {z z' : Nat → Int} (h : HeapAt W b 0 z ∧ ∀ o : Nat, o < 8 → W.frozen? ⟨b, o, none⟩ = false) (hi : i < 8) (e : ∀ k, k < 8 → k ≠ i → z k = z' k) : HeapAt (W.setCell ⟨b, i, none⟩ (.int .i32 (z' i))) b 0 z' ∧ ∀ o : Nat, o < 8 → (W.setCell ⟨b, i, none⟩ (.int .i32 (z' i))).frozen? ⟨b, o, none⟩ = false :=
  ⟨h.1.set1 hi e, fun o ho => by rw [World.frozen?_setCell]; exact h.2 o ho⟩
/-- A round's three stores. -/
theorem TT_step {w W : World} {Bg B : Nat} {z : Nat → Int} {s : Int × (Nat → Int) × (Nat → Int)} (h : TT w Bg B s W) (x : Fin 8) (hB : w.heap.size + 4 ≤ B) (hg : Bg = w.heap.size + 1) {p : Int} (hp : p = min (z x.val) s.1) :
    TT w Bg B (stp z s x) (((W.setCell ⟨B, x.val, none⟩ (.int .i32 (s.2.1 x.val + p))).setCell ⟨B + 1, x.val, none⟩ (.int .i32 (s.2.2 x.val - p))).setCell ⟨Bg, 0, none⟩ (.int .i64 (s.1 - p))) := by
  obtain ⟨h1, h2, h3, h4, h5⟩ := h
  subst hp hg
  have e1 : (stp z s x).2.1 x.val = s.2.1 x.val + min (z x.val) s.1 := by simp [stp]
  have e2 : (stp z s x).2.2 x.val = s.2.2 x.val - min (z x.val) s.1 := by simp [stp]
  have o1 : ∀ k, k < 8 → k ≠ x.val → s.2.1 k = (stp z s x).2.1 k := fun k _ hk => by simp [stp, hk]
  have o2 : ∀ k, k < 8 → k ≠ x.val → s.2.2 k = (stp z s x).2.2 k := fun k _ hk => by simp [stp, hk]
  rw [← e1, ← e2]
  have g1 : ((W.setCell ⟨B, x.val, none⟩ (.int .i32 ((stp z s x).2.1 x.val))).setCell ⟨B + 1, x.val, none⟩ (.int .i32 ((stp z s x).2.2 x.val))).cell? ⟨w.heap.size + 1, 0, none⟩ = some (.int .i64 s.1) := by
    rw [World.cell?_setCell_other (h := fun hh => by injection hh; omega), World.cell?_setCell_other (h := fun hh => by injection hh; omega)]
    exact h1.1
  refine ⟨⟨World.cell?_setCell_same _ _ _ g1, ?_⟩, heap_set (heap_set (heap_put h2 x.isLt o1) (by omega) _) (by omega) _, heap_set (heap_put (heap_set h3 (by omega) _) x.isLt o2) (by omega) _, heap_set (heap_set (heap_set h4 (by omega) _) (by omega) _) (by omega) _, heap_set (heap_set (heap_set h5 (by omega) _) (by omega) _) (by omega) _⟩
  rw [World.frozen?_setCell, World.frozen?_setCell, World.frozen?_setCell]
  exact h1.2
theorem set8_keeps (W : World) (b : Nat) (v0 v1 v2 v3 v4 v5 v6 v7 : Value) : KeepsOthers W (set8 W b v0 v1 v2 v3 v4 v5 v6 v7) := ((((((((KeepsOthers.setCell W ⟨b, 0, none⟩ v0).trans (KeepsOthers.setCell _ ⟨b, 1, none⟩ v1)).trans (KeepsOthers.setCell _ ⟨b, 2, none⟩ v2)).trans (KeepsOthers.setCell _ ⟨b, 3, none⟩ v3)).trans (KeepsOthers.setCell _ ⟨b, 4, none⟩ v4)).trans (KeepsOthers.setCell _ ⟨b, 5, none⟩ v5)).trans (KeepsOthers.setCell _ ⟨b, 6, none⟩ v6)).trans (KeepsOthers.setCell _ ⟨b, 7, none⟩ v7))
theorem set8_other (W : World) (b : Nat) (v0 v1 v2 v3 v4 v5 v6 v7 : Value) {c o : Nat} (h : b ≠ c) : (set8 W b v0 v1 v2 v3 v4 v5 v6 v7).cell? ⟨c, o, none⟩ = W.cell? ⟨c, o, none⟩ := by
  unfold set8
  rw [World.cell?_setCell_other (h := fun hh => h (by injection hh)), World.cell?_setCell_other (h := fun hh => h (by injection hh)), World.cell?_setCell_other (h := fun hh => h (by injection hh)), World.cell?_setCell_other (h := fun hh => h (by injection hh)), World.cell?_setCell_other (h := fun hh => h (by injection hh)), World.cell?_setCell_other (h := fun hh => h (by injection hh)), World.cell?_setCell_other (h := fun hh => h (by injection hh)), World.cell?_setCell_other (h := fun hh => h (by injection hh))]
end Go.Proofs.Ytekejhnhkifcfaa
