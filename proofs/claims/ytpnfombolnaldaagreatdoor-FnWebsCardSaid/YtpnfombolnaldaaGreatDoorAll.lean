/-
  No statement is proved here: what several values read as, beside one another; the total of a web; condition: the web is valid.
-/
import Derived.Test.YtpnfombolnaldaaGreatDoorA2
namespace Go.Proofs.YtpnfombolnaldaaGreatDoor
open Go.ChangeShapes Go.WideShapes Go.ChangeAt Go.RowKit


/-- What several values read as. -/
def All (w : World) (L : List (Value × List Int)) : Prop := ∀ p, p ∈ L → Ints w p.1 p.2
theorem All.below {w w' : World} {L : List (Value × List Int)} (h : All w L) (hB : Below w.heap.size w w') : All w' L := fun p hp => (h p hp).below hB
theorem All.push {w w' : World} {L : List (Value × List Int)} {v : Value} {zs : List Int} (h : All w L) (hB : Below w.heap.size w w') (hi : Ints w' v zs) : All w' ((v, zs) :: L) := by
  intro p hp
  rcases List.mem_cons.1 hp with e | e
  · subst e
    exact hi
  · exact (h p e).below hB
theorem All.get {w : World} {L : List (Value × List Int)} (h : All w L) (k : Nat) {v : Value} {zs : List Int} (e : L[k]? = some (v, zs)) : Ints w v zs := h (v, zs) (List.mem_of_getElem? e)
theorem All.same {w : World} {L : List (Value × List Int)} (h : All w L) (nd : Nat) : All (w.drewN nd) L := h.below (bdN w nd)
theorem All.two {w : World} {v1 v2 : Value} {z1 z2 : List Int} (h1 : Ints w v1 z1) (h2 : Ints w v2 z2) : All w [(v1, z1), (v2, z2)] := by
  intro p hp
  rcases List.mem_cons.1 hp with e | e
  · subst e
    exact h1
  · rcases List.mem_cons.1 e with e | e
    · subst e
      exact h2
    · cases e
theorem Ints.at {w : World} {b o n c : Nat} {zs : List Int} (h : Ints w (.slice (some ⟨b, o, none⟩) n c) zs) (j : Nat) (hj : j < zs.length) : w.cell? ⟨b, o + j, none⟩ = some (.int .i64 (zs.getD j 0)) := by
  rcases h with ⟨a, cap, e, rfl⟩ | ⟨b', off, cap, e, h0, hb, hc⟩
  · simp at hj
  · simp only [Value.slice.injEq, Option.some.injEq, Addr.mk.injEq] at e
    obtain ⟨⟨rfl, rfl, _⟩, _⟩ := e
    exact hc j hj
theorem Ints.addr {w : World} {a : Option Addr} {n c : Nat} {zs : List Int} (h : Ints w (.slice a n c) zs) (h0 : 0 < zs.length) : ∃ b o, a = some ⟨b, o, none⟩ := by
  rcases h with ⟨a, cap, e, rfl⟩ | ⟨b', off, cap, e, h0, hb, hc⟩
  · simp at h0
  · simp only [Value.slice.injEq] at e
    exact ⟨_, _, e.1⟩

set_option maxRecDepth 100000 in
theorem long_any (v u : Value) (xs ys : List Int) (w : World) (hv : Bytes w v xs) (hu : Bytes w u ys) :
    Calls Tryz.prog 4 #[v, u] w fun e w' => e = .returned (.bool (decide (3000 < xs.length) || decide (3000 < ys.length))) ∧ w = w' := by
  obtain ⟨a1, c1, rfl⟩ := hv.len
  obtain ⟨a2, c2, rfl⟩ := hu.len
  clear hv hu
  by_cases h1 : 3000 < xs.length
  · have h1' : (3000 : Int) < (xs.length : Int) := by omega
    go_enter Tryz.func4, Tryz.ntmps4
    go_wp2
    go_ret
    exact ⟨ret_bool (by simp [h1]), rfl⟩
  · have h1' : ¬ (3000 : Int) < (xs.length : Int) := by omega
    go_enter Tryz.func4, Tryz.ntmps4
    go_wp2
    go_ret
    exact ⟨ret_bool (by
      by_cases h2 : 3000 < ys.length
      · rw [decide_eq_true h2]; exact decide_eq_true (by omega)
      · rw [decide_eq_false h2]; exact decide_eq_false (by omega)), rfl⟩

set_option maxRecDepth 100000 in
set_option maxHeartbeats 1000000 in
theorem implTotal_t (v : Value) (zs : List Int) (w : World) (h : Ints w v zs) (hok : okW zs = true) :
    Calls Tryz.prog 10 #[v] w fun e w' => e = .returned (.tuple #[.int .i64 zs.sum, .int .i64 0]) ∧ w = w' := by
  have hl := okW_len hok
  have hin := valid_any v zs w h (by omega)
  rw [hok] at hin
  have HI := Lib.hid hin
  have HT := Lib.hid (sumOf_any v zs w h (by omega) (upTo_mono (okW_up hok) (by omega)))
  clear hin hok h
  generalize zs.sum = S at *
  go_enter Tryz.func10, Tryz.ntmps10
  go_wp2_with fail
  refine HI.out.mono ?_
  rintro e w' ⟨rfl, rfl⟩
  go_wp2_with fail
  refine HT.out.mono ?_
  rintro e w' ⟨rfl, rfl⟩
  go_wp2
  go_returns
  exact ⟨rfl, rfl⟩
end Go.Proofs.YtpnfombolnaldaaGreatDoor
