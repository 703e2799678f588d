/-
  No statement is proved here: which moves may be, as both texts tell it; no condition.
-/
import Derived.Test.YtajaiahfoknkcaaDoorIn
import Derived.Test.YtajaiahfoknkcaaDoorRec
namespace Go.Proofs.YtajaiahfoknkcaaDoor
open Go.ChangeShapes Go.WideShapes Go.ChangeAt Go.RowKit

def mayB (a b : Int) : Bool := (a == 0 && (b == 1 || b == 3)) || (a == 1 && (b == 2 || b == 3 || b == 4)) || (a == 2 && (b == 3 || b == 4))
set_option maxHeartbeats 4000000 in
theorem implMay_any (a b : Int) (w : World) : Calls Tryd.prog 18 #[.int .i64 a, .int .i64 b] w fun e w' => e = .returned (.bool (mayB a b)) ∧ w = w' := by
  have hb : b = 1 ∨ b = 2 ∨ b = 3 ∨ b = 4 ∨ ((b == 1) = false ∧ (b == 2) = false ∧ (b == 3) = false ∧ (b == 4) = false) := by
    simp only [beq_eq_false_iff_ne, ne_eq]
    omega
  rcases hb with rfl | rfl | rfl | rfl | ⟨b1, b2, b3, b4⟩
  all_goals
    by_cases a0 : a = 0
    · subst a0
      go_enter Tryd.func18, Tryd.ntmps18
      go_wp2
      go_ret
      exact ⟨by simp [mayB, *], rfl⟩
    · by_cases a1 : a = 1
      · subst a1
        go_enter Tryd.func18, Tryd.ntmps18
        go_wp2
        go_ret
        exact ⟨by simp [mayB, *], rfl⟩
      · by_cases a2 : a = 2
        · subst a2
          go_enter Tryd.func18, Tryd.ntmps18
          go_wp2
          go_ret
          exact ⟨by simp [mayB, *], rfl⟩
        · have a0' : (a == 0) = false := by simpa using a0
          have a1' : (a == 1) = false := by simpa using a1
          have a2' : (a == 2) = false := by simpa using a2
          go_enter Tryd.func18, Tryd.ntmps18
          go_wp2
          go_ret
          exact ⟨by simp [mayB, *], rfl⟩
set_option maxHeartbeats 4000000 in
theorem specMay_any (a b : Int) (w : World) : Calls Tryd.prog 23 #[.int .i64 a, .int .i64 b] w fun e w' => e = .returned (.bool (mayB a b)) ∧ w = w' := by
  have hb : b = 1 ∨ b = 2 ∨ b = 3 ∨ b = 4 ∨ ((b == 1) = false ∧ (b == 2) = false ∧ (b == 3) = false ∧ (b == 4) = false) := by
    simp only [beq_eq_false_iff_ne, ne_eq]
    omega
  rcases hb with rfl | rfl | rfl | rfl | ⟨b1, b2, b3, b4⟩
  all_goals
    by_cases a0 : a = 0
    · subst a0
      go_enter Tryd.func23, Tryd.ntmps23
      go_wp2
      go_ret
      exact ⟨by simp [mayB, *], rfl⟩
    · by_cases a1 : a = 1
      · subst a1
        go_enter Tryd.func23, Tryd.ntmps23
        go_wp2
        go_ret
        exact ⟨by simp [mayB, *], rfl⟩
      · by_cases a2 : a = 2
        · subst a2
          go_enter Tryd.func23, Tryd.ntmps23
          go_wp2
          go_ret
          exact ⟨by simp [mayB, *], rfl⟩
        · have a0' : (a == 0) = false := by simpa using a0
          have a1' : (a == 1) = false := by simpa using a1
          have a2' : (a == 2) = false := by simpa using a2
          go_enter Tryd.func23, Tryd.ntmps23
          go_wp2
          go_ret
          exact ⟨by simp [mayB, *], rfl⟩
theorem implMay_b (a b : Int) (w : World) : Calls Tryd.prog 18 #[.int .i64 a, .int .i64 b] w fun e w' => e = .returned (.bool (mayB a b)) ∧ Below w.heap.size w w' :=
  (implMay_any a b w).mono fun _ _ ⟨h, h2⟩ => ⟨h, h2 ▸ Below.refl _ _⟩
theorem specMay_b (a b : Int) (w : World) : Calls Tryd.prog 23 #[.int .i64 a, .int .i64 b] w fun e w' => e = .returned (.bool (mayB a b)) ∧ Below w.heap.size w w' :=
  (specMay_any a b w).mono fun _ _ ⟨h, h2⟩ => ⟨h, h2 ▸ Below.refl _ _⟩
end Go.Proofs.YtajaiahfoknkcaaDoor
