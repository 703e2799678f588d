/-
  No statement is proved here: moves of one kind taken together, as lists; no condition.
-/
import Derived.Test.YtphinokacggnfaaNetM
import Derived.Test.YtphinokacggnfaaUnM
namespace Go.Proofs.Ytphinokacggnfaa
open Go.ChangeShapes Go.WideShapes Go.ChangeAt Go.RowKit

def sumFT (ms : List Mv) (a b : Nat) : Nat → Int
  | 0 => 0
  | k + 1 => sumFT ms a b k + if (atMv ms k).1 = (a : Int) ∧ (atMv ms k).2.1 = (b : Int) then (atMv ms k).2.2 else 0
theorem sumFT_in {ms : List Mv} (h : allMv ms = true) (a b : Nat) : ∀ k, k ≤ ms.length → 0 ≤ sumFT ms a b k ∧ sumFT ms a b k ≤ 5000 * (k : Int)
  | 0, _ => by simp [sumFT]
  | k + 1, hk => by
    have ih := sumFT_in h a b k (by omega)
    obtain ⟨_, _, _, _, _, _, _, _, h0, h1⟩ := okMv_parts (y0 := (atMv ms k).1) (y1 := (atMv ms k).2.1) (y2 := (atMv ms k).2.2) (allMv_get h k (by omega))
    simp only [sumFT]
    split <;> omega
theorem sumFT_hit {ms : List Mv} {a b k : Nat} {g : Int} (h : atMv ms k = ((a : Int), (b : Int), g)) : sumFT ms a b (k + 1) = sumFT ms a b k + g := by simp [sumFT, h]
theorem sumFT_miss {ms : List Mv} {a b p q k : Nat} {g : Int} (h : atMv ms k = ((p : Int), (q : Int), g)) (hne : ¬ (p = a ∧ q = b)) : sumFT ms a b (k + 1) = sumFT ms a b k := by
  simp only [sumFT, h]
  rw [if_neg (by omega)]
  omega
/-- What all moves of the kind t bring. -/
def tot (ms : List Mv) (t : Nat) : Int := sumFT ms (t / 5) (t % 5) ms.length
def mergeTo (ms : List Mv) : Nat → List Mv
  | 0 => []
  | t + 1 => if 0 < tot ms t then mergeTo ms t ++ [(((t / 5 : Nat) : Int), ((t % 5 : Nat) : Int), tot ms t)] else mergeTo ms t
def fewTo (ms : List Mv) (t : Nat) : Prop := ∀ s, s < t → tot ms s ≤ 5000
theorem fewTo_succ {ms : List Mv} {t : Nat} (h : fewTo ms t) (h1 : tot ms t ≤ 5000) : fewTo ms (t + 1) := fun s hs => by
  by_cases e : s = t
  · subst e
    exact h1
  · exact h s (by omega)
theorem mergeTo_length {ms : List Mv} : ∀ t, (mergeTo ms t).length ≤ t
  | 0 => by simp [mergeTo]
  | t + 1 => by
    have ih := mergeTo_length (ms := ms) t
    simp only [mergeTo]
    split
    · rw [List.length_append]
      simp
      omega
    · omega
theorem mergeTo_is {ms : List Mv} : ∀ t, t ≤ 25 → fewTo ms t → ∀ j, IsMv (atMv (mergeTo ms t) j)
  | 0, _, _ => fun j => by simp [mergeTo, atMv, IsMv]
  | t + 1, ht, h => by
    have ih := mergeTo_is (ms := ms) t (by omega) (fun s hs => h s (by omega))
    have h1 := h t (by omega)
    simp only [mergeTo]
    split
    · rw [isMv_mem] at ih ⊢
      intro y hy
      rcases List.mem_append.1 hy with hy | hy
      · exact ih y hy
      · obtain rfl : y = _ := by simpa using hy
        exact ⟨⟨by show (-128 : Int) ≤ ((t / 5 : Nat) : Int); omega, by show ((t / 5 : Nat) : Int) ≤ 127; omega⟩, ⟨by show (-128 : Int) ≤ ((t % 5 : Nat) : Int); omega, by show ((t % 5 : Nat) : Int) ≤ 127; omega⟩, ⟨by show (-32768 : Int) ≤ tot ms t; omega, by show tot ms t ≤ 32767; omega⟩⟩
    · exact ih
theorem mergeTo_yes {ms : List Mv} {a b : Nat} (hb : b < 5) (h : 0 < tot ms (5 * a + b)) : mergeTo ms (5 * a + b + 1) = mergeTo ms (5 * a + b) ++ [((a : Int), (b : Int), tot ms (5 * a + b))] := by
  simp only [mergeTo]
  rw [if_pos h, show (5 * a + b) / 5 = a by omega, show (5 * a + b) % 5 = b by omega]
theorem mergeTo_not {ms : List Mv} {t : Nat} (h : ¬ 0 < tot ms t) : mergeTo ms (t + 1) = mergeTo ms t := by
  simp only [mergeTo]
  rw [if_neg h]
theorem tot_ab (ms : List Mv) {a b : Nat} (hb : b < 5) : tot ms (5 * a + b) = sumFT ms a b ms.length := by
  unfold tot
  rw [show (5 * a + b) / 5 = a by omega, show (5 * a + b) % 5 = b by omega]
instance (ms : List Mv) : Decidable (fewTo ms 25) := inferInstanceAs (Decidable (∀ s, s < 25 → tot ms s ≤ 5000))
/-- What MergeMoves answers. -/
def mergeF (ms : List Mv) : List Mv × Int := if isMvs ms = true then (if fewTo ms 25 then (mergeTo ms 25, 0) else ([], 3)) else ([], 1)
theorem mergeF_no {ms : List Mv} (h : isMvs ms = false) : mergeF ms = ([], 1) := if_neg (by rw [h]; simp)
theorem mergeF_much {ms : List Mv} {t : Nat} (h : isMvs ms = true) (ht : t < 25) (h1 : 5000 < tot ms t) : mergeF ms = ([], 3) := by
  rw [mergeF, if_pos h, if_neg]
  intro hf
  have := hf t ht
  omega
theorem mergeF_yes {ms : List Mv} (h : isMvs ms = true) (h1 : fewTo ms 25) : mergeF ms = (mergeTo ms 25, 0) := by rw [mergeF, if_pos h, if_pos h1]
theorem mergeF_len {ms : List Mv} : (mergeF ms).1.length ≤ 2097152 := by
  unfold mergeF
  split
  · split
    · have := mergeTo_length (ms := ms) 25
      show (mergeTo ms 25).length ≤ _
      omega
    · simp
  · simp
theorem one_mv (a b c : Int) : ∀ u ∈ [Value.int .i8 a, .int .i8 b, .int .i16 c], u.oneCell' = true := by intro u hu; simp at hu; rcases hu with rfl | rfl | rfl <;> rfl
theorem grown_alM {w w' : World} {o : Obj} {row : Option Nat} (h : (w.alloc o).grownBy w' row) : w.grownBy w' row := grown_tr (World.grownBy_alloc w o row) h
end Go.Proofs.Ytphinokacggnfaa
