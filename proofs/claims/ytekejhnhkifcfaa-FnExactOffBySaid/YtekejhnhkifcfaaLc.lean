/-
  No statement is proved here: the least common multiple of the grams of several heaps, as numbers; marks among deferred calls; no condition.
-/
import Derived.Test.YtekejhnhkifcfaaGcd
import Derived.Test.YtekejhnhkifcfaaHeapX
import Derived.RangeFuncLeaves
import Derived.RangeFuncWrites
import Derived.RangeFuncRecord
import Derived.RangeFuncOwn
namespace Go.Proofs.Ytekejhnhkifcfaa
open Go.RowKit

def lcTo (s : Nat → Int) : Nat → Int
  | 0 => 1
  | i + 1 => lcTo s i / (Int.gcd (lcTo s i) (s i) : Int) * s i
theorem lcTo_succ (s : Nat → Int) (i : Nat) : lcTo s (i + 1) = lcTo s i / (Int.gcd (lcTo s i) (s i) : Int) * s i := rfl
theorem lc_pos {a b : Int} (ha : 0 < a) (hb : 0 < b) : 0 < a / (Int.gcd a b : Int) * b := by
  have hg : (0 : Int) < (Int.gcd a b : Int) := by
    have := Int.gcd_pos_of_ne_zero_left b (show a ≠ 0 by omega)
    omega
  obtain ⟨c, hc⟩ := Int.gcd_dvd_left (a := a) (b := b)
  have e : a / (Int.gcd a b : Int) = c := Int.ediv_eq_of_eq_mul_right (by omega) hc
  rw [e]
  have : 0 < c := by
    rcases Int.lt_or_le 0 c with h | h
    · exact h
    · have := Int.mul_nonneg (show (0 : Int) ≤ (Int.gcd a b : Int) by omega) (show 0 ≤ -c by omega)
      rw [Int.mul_neg] at this
      omega
  exact Int.mul_pos this hb
theorem lcTo_pos {s : Nat → Int} {n : Nat} (h : ∀ i, i < n → 0 < s i) : ∀ k, k ≤ n → 0 < lcTo s k
  | 0, _ => by simp [lcTo]
  | k + 1, hk => by
    rw [lcTo_succ]
    exact lc_pos (lcTo_pos h k (by omega)) (h k (by omega))
theorem lc_le {a b : Int} (ha : 0 < a) (hb : 0 < b) : a / (Int.gcd a b : Int) * b ≤ a * b := by
  have hg : (0 : Int) < (Int.gcd a b : Int) := by
    have := Int.gcd_pos_of_ne_zero_left b (show a ≠ 0 by omega)
    omega
  exact Int.mul_le_mul_of_nonneg_right (Int.ediv_le_self _ (by omega)) (by omega)
theorem lc_dvd_left (a b : Int) (_ha : 0 < a) : a ∣ a / (Int.gcd a b : Int) * b := by
  obtain ⟨c, hc⟩ := Int.gcd_dvd_left (a := a) (b := b)
  obtain ⟨d, hd⟩ := Int.gcd_dvd_right (a := a) (b := b)
  have hg : (Int.gcd a b : Int) ≠ 0 := by
    have := Int.gcd_pos_of_ne_zero_left b (show a ≠ 0 by omega)
    omega
  have e : a / (Int.gcd a b : Int) = c := Int.ediv_eq_of_eq_mul_right hg hc
  rw [e]
  refine ⟨d, ?_⟩
  generalize (Int.gcd a b : Int) = g at *
  rw [hc, hd, ← Int.mul_assoc, Int.mul_comm c g]
theorem lc_dvd_right (a b : Int) : b ∣ a / (Int.gcd a b : Int) * b := ⟨_, Int.mul_comm _ _⟩
theorem lcTo_dvd {s : Nat → Int} {n : Nat} (h : ∀ i, i < n → 0 < s i) : ∀ k, k ≤ n → ∀ i, i < k → s i ∣ lcTo s k
  | 0, _, i, hi => by omega
  | k + 1, hk, i, hi => by
    rw [lcTo_succ]
    by_cases e : i = k
    · subst e; exact lc_dvd_right _ _
    · exact Int.dvd_trans (lcTo_dvd h k (by omega) i (by omega)) (lc_dvd_left _ _ (lcTo_pos h k (by omega)))
/-- Each number at most 8000, the whole one at most 10 to the power 15. -/
def LcOk (s : Nat → Int) (n : Nat) : Prop := (∀ i, i < n → 0 < s i ∧ s i ≤ 8000) ∧ ∀ k, k ≤ n → 0 < lcTo s k ∧ lcTo s k ≤ 1000000000000000
theorem LcOk.of {s : Nat → Int} {n : Nat} {c : Int} (hs : ∀ i, i < n → 0 < s i ∧ s i ≤ c) (hc : 1 ≤ c) (hc2 : c ≤ 8000) (hn : c ^ n ≤ 1000000000000000) : LcOk s n := by
  have hp := lcTo_pos (s := s) (n := n) (fun i hi => (hs i hi).1)
  have hle : ∀ k, k ≤ n → lcTo s k ≤ c ^ k := by
    intro k
    induction k with
    | zero => intro _; simp [lcTo]
    | succ k ih =>
      intro hk
      rw [lcTo_succ, Int.pow_succ]
      refine Int.le_trans (lc_le (hp k (by omega)) (hs k (by omega)).1) ?_
      exact Int.mul_le_mul (ih (by omega)) (hs k (by omega)).2 (Int.le_of_lt (hs k (by omega)).1) (Int.le_trans (Int.le_of_lt (hp k (by omega))) (ih (by omega)))
  have hmono : ∀ j k : Nat, j ≤ k → c ^ j ≤ c ^ k := by
    intro j k hjk
    induction k with
    | zero => have : j = 0 := by omega
              subst this; exact Int.le_refl _
    | succ k ih =>
      by_cases e : j = k + 1
      · subst e; exact Int.le_refl _
      · have h1 := ih (by omega)
        have h0 : 0 ≤ c ^ k := Int.pow_nonneg (by omega)
        have h2 := Int.mul_le_mul_of_nonneg_left hc h0
        rw [Int.mul_one] at h2
        rw [Int.pow_succ]
        omega
  exact ⟨fun i hi => ⟨(hs i hi).1, by have := (hs i hi).2; omega⟩, fun k hk => ⟨hp k hk, by have := hle k hk; have := hmono k n hk; omega⟩⟩

/-- A mark that a range over a function leaves among the deferred calls. -/
def markOf (D : Nat) : Deferred := { target := .collected D, args := #[] }
/-- The marks of a frame, each one's block as the range has left it. -/
def Marks (B : Nat) (Ds : List Nat) (w : World) : Prop := Ds.Nodup ∧ ∀ D ∈ Ds, B ≤ D ∧ w.heap[D]? = some (.deferred (some []))
theorem Marks.nil (B : Nat) (w : World) : Marks B [] w := ⟨List.nodup_nil, fun D h => by simp at h⟩
theorem Marks.keeps {B : Nat} {Ds : List Nat} {W W' : World} (h : Marks B Ds W) (hk : KeepsOthers W W') : Marks B Ds W' := ⟨h.1, fun D hD => ⟨(h.2 D hD).1, hk.same D _ (h.2 D hD).2 rfl⟩⟩
theorem Marks.below {B : Nat} {Ds : List Nat} {W W' : World} (h : Marks B Ds W) (hb : Below W.heap.size W W') : Marks B Ds W' := ⟨h.1, fun D hD => ⟨(h.2 D hD).1, (hb.block D (Array.getElem?_eq_some_iff.1 (h.2 D hD).2).1).trans (h.2 D hD).2⟩⟩
theorem Marks.lt {B : Nat} {Ds : List Nat} {W : World} (h : Marks B Ds W) : ∀ D ∈ Ds, D < W.heap.size := fun D hD => (Array.getElem?_eq_some_iff.1 (h.2 D hD).2).1
theorem Marks.own {β : Type} {B C : Nat} (Ds : List Nat) (hlt : ∀ D ∈ Ds, D < C) : OwnFrom C (fun (_ : β) W => Marks B Ds W) := fun _ W W' row hs hg hr => ⟨hs.1, fun D hD => ⟨(hs.2 D hD).1, by
  have h := (hs.2 D hD).2
  rw [hg.block D (Array.getElem?_eq_some_iff.1 h).1 (fun e => by have := (hr D e.symm).1; have := hlt D hD; omega)]
  exact h⟩⟩
theorem Marks.cons {B D : Nat} {Ds : List Nat} {W : World} (h : Marks B Ds W) (hB : B ≤ D) (hD : W.heap[D]? = some (.deferred (some []))) (hne : ∀ E ∈ Ds, E < D) : Marks B (D :: Ds) W :=
  ⟨List.nodup_cons.2 ⟨fun hm => by have := hne D hm; omega, h.1⟩, fun E hE => by
    rcases List.mem_cons.1 hE with rfl | hE
    · exact ⟨hB, hD⟩
    · exact h.2 E hE⟩
/-- A frame with marks alone leaves as one without, behind them. -/
theorem leaves_marks {P : Program} {F : Fence} {n B : Nat} {fn : Func} {tmps : Array Value} {R : Ending → World → Prop} : ∀ (Ds : List Nat) (u : FrameMode) (w : World), u ≠ .run → Marks B Ds w →
    (∀ w', Below B w w' → (∀ a v, w.cell? a = some v → w'.cell? a = some v ∧ w'.frozen? a = w.frozen? a) → LeavesIn F n P fn tmps R [] u w') → LeavesInM F n P fn tmps R (Ds.map markOf) u w
  | [], _, w, _, _, h => h w (Below.refl _ _) fun _ _ h => ⟨h, rfl⟩
  | D :: Ds, u, w, hu, hm, h => by
    obtain ⟨hD, hnd⟩ := List.nodup_cons.1 hm.1
    obtain ⟨hBD, ho⟩ := hm.2 D (by simp)
    have hg := grownBy_putObj' w D (.deferred none)
    have hb : Below B w (w.putObj D (.deferred none)) := (Below.refl B w).grown hg (by have := (Array.getElem?_eq_some_iff.1 ho).1; omega) (fun k e => by cases e; omega)
    refine ⟨hu, .inl ⟨D, _, rfl, run_takeDeferred ho, leaves_marks Ds u _ hu ⟨hnd, fun E hE => ⟨(hm.2 E (by simp [hE])).1, ?_⟩⟩ fun w' hb' hc => h w' (hb.trans hb') fun a v hv => by
      have hr : ∀ r, some D = some r → ∃ o : Obj, w.heap[r]? = some o ∧ o.isCells = false := fun r e => by cases e; exact ⟨_, ho, rfl⟩
      have h2 := hc a v (cell_kept hv hg hr)
      exact ⟨h2.1, h2.2.trans (frozen_kept hv hg hr)⟩⟩⟩
    rw [World.putObj_heap_other (fun e => by subst e; exact hD hE)]
    exact (hm.2 E (by simp [hE])).2
end Go.Proofs.Ytekejhnhkifcfaa
