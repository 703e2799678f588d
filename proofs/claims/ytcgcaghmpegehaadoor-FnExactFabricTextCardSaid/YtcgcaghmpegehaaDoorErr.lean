/-
  No statement is proved here: the six errors of chapter 3, where they lie, and which code the program tells for each; condition: they lie where the program's text lays them.
-/
import Derived.Test.YtcgcaghmpegehaaDoorEis
namespace Go.Proofs.YtcgcaghmpegehaaDoor
open Go.RowKit Go.Extern.Stop Go.Stop Go.Extern

/-- Error k (its code is k + 1) lies at p k. -/
def Sent (w : World) (p : Nat → Addr) : Prop :=
  (w.cell? ⟨0, 0, none⟩ = some (errAt (p 0)) ∧ w.cell? ⟨1, 0, none⟩ = some (errAt (p 1)) ∧
   w.cell? ⟨2, 0, none⟩ = some (errAt (p 2)) ∧ w.cell? ⟨3, 0, none⟩ = some (errAt (p 3)) ∧
   w.cell? ⟨4, 0, none⟩ = some (errAt (p 4)) ∧ w.cell? ⟨5, 0, none⟩ = some (errAt (p 5))) ∧
  (∀ i j, i < 6 → j < 6 → i ≠ j → p i ≠ p j) ∧ (∀ i, i < 6 → ∃ cs t, w.heap[(p i).block]? = some (.cells cs t (0, 0)))
theorem Sent.below {w w' : World} {p : Nat → Addr} (h : Sent w p) (hB : Below w.heap.size w w') : Sent w' p := by
  have k : ∀ {b o : Nat} {v : Value}, w.cell? ⟨b, o, none⟩ = some v → w'.cell? ⟨b, o, none⟩ = some v := fun hc => (hB.cell (p := ⟨_, _, none⟩) (World.block_lt_of_cell? w _ hc)).trans hc
  refine ⟨⟨k h.1.1, k h.1.2.1, k h.1.2.2.1, k h.1.2.2.2.1, k h.1.2.2.2.2.1, k h.1.2.2.2.2.2⟩, h.2.1, fun i hi => ?_⟩
  obtain ⟨cs, t, hh⟩ := h.2.2 i hi
  exact ⟨cs, t, by rw [hB.block _ (lt_of_block hh)]; exact hh⟩
theorem Sent.drewN {w : World} {p : Nat → Addr} (h : Sent w p) (n : Nat) : Sent (w.drewN n) p := h

theorem isK {w : World} {p : Nat → Addr} (h : Sent w p) (i j : Nat) (hi : i < 6) (hj : j < 6) :
    Calls Tryd.prog 33 #[errAt (p i), errAt (p j)] w fun e w' => e = .returned (.bool (decide (i = j))) ∧ w = w' := by
  by_cases hij : i = j
  · subst hij
    simpa using is_same (p i) w
  · obtain ⟨ca, ta, ha⟩ := h.2.2 i hi
    obtain ⟨cb, tb, hb⟩ := h.2.2 j hj
    simpa [hij] using is_other (p i) (p j) ca cb ta tb w (h.2.1 i j hi hj hij) ha hb

set_option maxHeartbeats 1000000 in
theorem codeOf_nil {p : Nat → Addr} (w : World) (h : Sent w p) :
    Calls Tryd.prog 24 #[.nilIface] w fun e w' => e = .returned (.int .i64 0) ∧ w = w' := by
  have H := Lib.hid fun j => is_nil (p j) w
  obtain ⟨⟨c0, c1, c2, c3, c4, c5⟩, _⟩ := h
  go_enter Tryd.func24, Tryd.ntmps24
  go_wp2_with (go_at_call 33; refine (H.out _).mono ?_; rintro e w' ⟨rfl, rfl⟩)
  go_ret
  exact ⟨rfl, rfl⟩

set_option maxHeartbeats 4000000 in
theorem codeOf_err {p : Nat → Addr} (k : Nat) (hk : k < 6) (w : World) (h : Sent w p) :
    Calls Tryd.prog 24 #[errAt (p k)] w fun e w' => e = .returned (.int .i64 ((k : Int) + 1)) ∧ w = w' := by
  have H := Lib.hid fun j hj => isK h k j hk hj
  obtain ⟨⟨c0, c1, c2, c3, c4, c5⟩, _⟩ := h
  generalize p k = q at *
  have h6 : k = 0 ∨ k = 1 ∨ k = 2 ∨ k = 3 ∨ k = 4 ∨ k = 5 := by omega
  rcases h6 with rfl | rfl | rfl | rfl | rfl | rfl
  · go_enter Tryd.func24, Tryd.ntmps24
    go_wp2_with fail
    refine (H.out 0 (by omega)).mono ?_
    rintro e w' ⟨rfl, rfl⟩
    go_wp2
    go_ret
    exact ⟨rfl, rfl⟩
  · go_enter Tryd.func24, Tryd.ntmps24
    go_wp2_with fail
    refine (H.out 0 (by omega)).mono ?_
    rintro e w' ⟨rfl, rfl⟩
    go_wp2_with fail
    refine (H.out 1 (by omega)).mono ?_
    rintro e w' ⟨rfl, rfl⟩
    go_wp2
    go_ret
    exact ⟨rfl, rfl⟩
  · go_enter Tryd.func24, Tryd.ntmps24
    go_wp2_with fail
    refine (H.out 0 (by omega)).mono ?_
    rintro e w' ⟨rfl, rfl⟩
    go_wp2_with fail
    refine (H.out 1 (by omega)).mono ?_
    rintro e w' ⟨rfl, rfl⟩
    go_wp2_with fail
    refine (H.out 2 (by omega)).mono ?_
    rintro e w' ⟨rfl, rfl⟩
    go_wp2
    go_ret
    exact ⟨rfl, rfl⟩
  · go_enter Tryd.func24, Tryd.ntmps24
    go_wp2_with fail
    refine (H.out 0 (by omega)).mono ?_
    rintro e w' ⟨rfl, rfl⟩
    go_wp2_with fail
    refine (H.out 1 (by omega)).mono ?_
    rintro e w' ⟨rfl, rfl⟩
    go_wp2_with fail
    refine (H.out 2 (by omega)).mono ?_
    rintro e w' ⟨rfl, rfl⟩
    go_wp2_with fail
    refine (H.out 3 (by omega)).mono ?_
    rintro e w' ⟨rfl, rfl⟩
    go_wp2
    go_ret
    exact ⟨rfl, rfl⟩
  · go_enter Tryd.func24, Tryd.ntmps24
    go_wp2_with fail
    refine (H.out 0 (by omega)).mono ?_
    rintro e w' ⟨rfl, rfl⟩
    go_wp2_with fail
    refine (H.out 1 (by omega)).mono ?_
    rintro e w' ⟨rfl, rfl⟩
    go_wp2_with fail
    refine (H.out 2 (by omega)).mono ?_
    rintro e w' ⟨rfl, rfl⟩
    go_wp2_with fail
    refine (H.out 3 (by omega)).mono ?_
    rintro e w' ⟨rfl, rfl⟩
    go_wp2_with fail
    refine (H.out 4 (by omega)).mono ?_
    rintro e w' ⟨rfl, rfl⟩
    go_wp2
    go_ret
    exact ⟨rfl, rfl⟩
  · go_enter Tryd.func24, Tryd.ntmps24
    go_wp2_with fail
    refine (H.out 0 (by omega)).mono ?_
    rintro e w' ⟨rfl, rfl⟩
    go_wp2_with fail
    refine (H.out 1 (by omega)).mono ?_
    rintro e w' ⟨rfl, rfl⟩
    go_wp2_with fail
    refine (H.out 2 (by omega)).mono ?_
    rintro e w' ⟨rfl, rfl⟩
    go_wp2_with fail
    refine (H.out 3 (by omega)).mono ?_
    rintro e w' ⟨rfl, rfl⟩
    go_wp2_with fail
    refine (H.out 4 (by omega)).mono ?_
    rintro e w' ⟨rfl, rfl⟩
    go_wp2_with fail
    refine (H.out 5 (by omega)).mono ?_
    rintro e w' ⟨rfl, rfl⟩
    go_wp2
    go_ret
    exact ⟨rfl, rfl⟩
end Go.Proofs.YtcgcaghmpegehaaDoor
