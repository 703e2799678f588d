/-
  No statement is proved here: what the law on lumps calls, for webs that are drawn; condition: the web is thin.
-/
import Derived.Test.YtocpigibognfpaaLumpFacts
import Derived.Test.YtocpigibognfpaaPartAllI
import Derived.Test.YtocpigibognfpaaA2
namespace Go.Proofs.Ytocpigibognfpaa
open Go.ChangeShapes Go.WideShapes Go.ChangeAt Go.RowKit

/-- What several values read as. -/
def All (w : World) (L : List (Value × List Int)) : Prop := ∀ p, p ∈ L → Ints w p.1 p.2
theorem All.below {w w' : World} {L : List (Value × List Int)} (h : All w L) (hB : Below w.heap.size w w') : All w' L := fun p hp => (h p hp).below hB
theorem All.push {w w' : World} {L : List (Value × List Int)} {v : Value} {zs : List Int} (h : All w L) (hB : Below w.heap.size w w') (hi : Ints w' v zs) : All w' ((v, zs) :: L) := by
  intro p hp
  rcases List.mem_cons.1 hp with e | e
  · subst e
    exact hi
  · exact (h p e).below hB
theorem All.get {w : World} {L : List (Value × List Int)} (h : All w L) (k : Nat) {v : Value} {zs : List Int} (e : L[k]? = some (v, zs)) : Ints w v zs := h (v, zs) (List.mem_of_getElem? e)
theorem All.same {w : World} {L : List (Value × List Int)} (h : All w L) (nd : Nat) : All (w.drewN nd) L := h.below (bdN w nd)

theorem Ints.at {w : World} {b o n c : Nat} {zs : List Int} (h : Ints w (.slice (some ⟨b, o, none⟩) n c) zs) (j : Nat) (hj : j < zs.length) : w.cell? ⟨b, o + j, none⟩ = some (.int .i64 (zs.getD j 0)) := by
  rcases h with ⟨a, cap, e, rfl⟩ | ⟨b', off, cap, e, h0, hb, hc⟩
  · simp at hj
  · simp only [Value.slice.injEq, Option.some.injEq, Addr.mk.injEq] at e
    obtain ⟨⟨rfl, rfl, _⟩, _⟩ := e
    exact hc j hj
theorem Ints.addr {w : World} {a : Option Addr} {n c : Nat} {zs : List Int} (h : Ints w (.slice a n c) zs) (h0 : 0 < zs.length) : ∃ b o, a = some ⟨b, o, none⟩ := by
  rcases h with ⟨a, cap, e, rfl⟩ | ⟨b', off, cap, e, h0, hb, hc⟩
  · simp at h0
  · simp only [Value.slice.injEq] at e
    exact ⟨_, _, e.1⟩

set_option maxRecDepth 100000 in
theorem long_any (v u : Value) (xs ys : List Int) (w : World) (hv : Bytes w v xs) (hu : Bytes w u ys) :
    Calls Try.prog 6 #[v, u] w fun e w' => e = .returned (.bool (decide (3000 < xs.length) || decide (3000 < ys.length))) ∧ w = w' := by
  obtain ⟨a1, c1, rfl⟩ := hv.len
  obtain ⟨a2, c2, rfl⟩ := hu.len
  clear hv hu
  by_cases h1 : 3000 < xs.length
  · have h1' : (3000 : Int) < (xs.length : Int) := by omega
    go_enter Try.func6, Try.ntmps6
    go_wp2
    go_ret
    exact ⟨ret_bool (by simp [h1]), rfl⟩
  · have h1' : ¬ (3000 : Int) < (xs.length : Int) := by omega
    go_enter Try.func6, Try.ntmps6
    go_wp2
    go_ret
    exact ⟨ret_bool (by
      by_cases h2 : 3000 < ys.length
      · rw [decide_eq_true h2]; exact decide_eq_true (by omega)
      · rw [decide_eq_false h2]; exact decide_eq_false (by omega)), rfl⟩

set_option maxRecDepth 100000 in
set_option maxHeartbeats 1000000 in
theorem implTotal_t (v : Value) (zs : List Int) (w : World) (h : Ints w v zs) (hok : okW zs = true) :
    Calls Try.prog 15 #[v] w fun e w' => e = .returned (.tuple #[.int .i64 zs.sum, .int .i64 0]) ∧ w = w' := by
  have hl := okW_len hok
  have hin := valid_any v zs w h (by omega)
  rw [hok] at hin
  have HI := Lib.hid hin
  have HT := Lib.hid (sumOf_any v zs w h (by omega) (upTo_mono (okW_up hok) (by omega)))
  clear hin hok h
  generalize zs.sum = S at *
  go_enter Try.func15, Try.ntmps15
  go_wp2_with fail
  refine HI.out.mono ?_
  rintro e w' ⟨rfl, rfl⟩
  go_wp2_with fail
  refine HT.out.mono ?_
  rintro e w' ⟨rfl, rfl⟩
  go_wp2
  go_returns
  exact ⟨rfl, rfl⟩

theorem implLumps_t (v : Value) (zs : List Int) (t : Int) (w : World) (h : Ints w v zs) (hok : okW zs = true) (ht : 1 ≤ t) (ht' : t ≤ 12) :
    Calls Try.prog 9 #[v, .int .i64 t] w fun e w' => ∃ a c, e = .returned (.tuple #[.slice a (lumpsTo zs t zs.length).length c, .int .i64 0]) ∧ Ints w' (.slice a (lumpsTo zs t zs.length).length c) (lumpsTo zs t zs.length) ∧ Below w.heap.size w w' := by
  have hl := okW_len hok
  have H := implLumps_any v zs t w h (by omega)
  rw [lumF_yes hok (inB_mk ⟨ht, ht'⟩)] at H
  refine H.mono ?_
  rintro e w' ⟨r, rfl, own, hB⟩
  have hi := own.ints
  obtain ⟨a, c, rfl⟩ := hi.len
  exact ⟨a, c, rfl, hi, hB⟩
theorem specLumps_t (v : Value) (zs : List Int) (t : Int) (w : World) (h : Ints w v zs) (hok : okW zs = true) (ht : 1 ≤ t) (ht' : t ≤ 12) :
    Calls Try.prog 10 #[v, .int .i64 t] w fun e w' => ∃ a c, e = .returned (.tuple #[.slice a (lumpsTo zs t zs.length).length c, .int .i64 0]) ∧ Ints w' (.slice a (lumpsTo zs t zs.length).length c) (lumpsTo zs t zs.length) ∧ Below w.heap.size w w' := by
  have hl := okW_len hok
  have H := specLumps_any v zs t w h (by omega)
  rw [lumF_yes hok (inB_mk ⟨ht, ht'⟩)] at H
  refine H.mono ?_
  rintro e w' ⟨r, rfl, own, hB⟩
  have hi := own.ints
  obtain ⟨a, c, rfl⟩ := hi.len
  exact ⟨a, c, rfl, hi, hB⟩
theorem implPart_t (v : Value) (zs : List Int) (i n : Nat) (w : World) (h : Ints w v zs) (hok : okW zs = true) (hok' : okW (partL zs i) = true) (hi : i < zs.length) (hn : zs.length = n) :
    Calls Try.prog 11 #[v, .int .i64 i] w fun e w' => ∃ a c, e = .returned (.tuple #[.slice a n c, .int .i64 0]) ∧ Ints w' (.slice a n c) (partL zs i) ∧ Below w.heap.size w w' := by
  have hl := okW_len hok
  have H := implPart_any v zs i w h (by omega)
  rw [parF_yes hok (inB_mk ⟨by omega, by omega⟩) hok'] at H
  refine H.mono ?_
  rintro e w' ⟨r, rfl, own, hB⟩
  have hi := own.ints
  obtain ⟨a, c, rfl⟩ := hi.len
  rw [partL_length, hn] at hi ⊢
  exact ⟨a, c, rfl, hi, hB⟩
theorem specPart_t (v : Value) (zs : List Int) (i n : Nat) (w : World) (h : Ints w v zs) (hok : okW zs = true) (hok' : okW (partL zs i) = true) (hi : i < zs.length) (hn : zs.length = n) :
    Calls Try.prog 12 #[v, .int .i64 i] w fun e w' => ∃ a c, e = .returned (.tuple #[.slice a n c, .int .i64 0]) ∧ Ints w' (.slice a n c) (partL zs i) ∧ Below w.heap.size w w' := by
  have hl := okW_len hok
  have H := specPart_any v zs i w h (by omega)
  rw [parF_yes hok (inB_mk ⟨by omega, by omega⟩) hok'] at H
  refine H.mono ?_
  rintro e w' ⟨r, rfl, own, hB⟩
  have hi := own.ints
  obtain ⟨a, c, rfl⟩ := hi.len
  rw [partL_length, hn] at hi ⊢
  exact ⟨a, c, rfl, hi, hB⟩
theorem implPartAll_t (v : Value) (zs : List Int) (t T : Int) (m n : Nat) (w : World) (h : Ints w v zs) (hth : thin n T zs) (ht : 1 ≤ t) (ht' : t ≤ 12) (hm : m ≤ 100) :
    Calls Try.prog 13 #[v, .int .i64 t, .int .i64 m] w fun e w' => ∃ a c, e = .returned (.tuple #[.slice a n c, .int .i64 (cntP t m zs : Nat), .int .i64 0]) ∧ Ints w' (.slice a n c) (itP t (cntP t m zs) zs) ∧ Below w.heap.size w w' := by
  have hl := okW_len (thin_ok hth)
  have H := implPartAll_any v zs t m w h (by omega)
  obtain ⟨a1, a2, a3, a4⟩ := paF_eq (t := t) m zs 0 hth
  rw [pallF_yes (thin_ok hth) (by rw [inB_mk ⟨ht, ht'⟩, inB_mk ⟨by omega, by omega⟩]; rfl), a1, Int.zero_add] at H
  refine H.mono ?_
  rintro e w' ⟨r, rfl, own, hB⟩
  have hi := own.ints
  obtain ⟨a, c, rfl⟩ := hi.len
  have hn := a2.1
  dsimp only at hi ⊢
  rw [hn] at hi ⊢
  exact ⟨a, c, rfl, hi, hB⟩
theorem specPartAll_t (v : Value) (zs : List Int) (t T : Int) (m n : Nat) (w : World) (h : Ints w v zs) (hth : thin n T zs) (ht : 1 ≤ t) (ht' : t ≤ 12) (hm : m ≤ 100) :
    Calls Try.prog 14 #[v, .int .i64 t, .int .i64 m] w fun e w' => ∃ a c, e = .returned (.tuple #[.slice a n c, .int .i64 (cntP t m zs : Nat), .int .i64 0]) ∧ Ints w' (.slice a n c) (itP t (cntP t m zs) zs) ∧ Below w.heap.size w w' := by
  have hl := okW_len (thin_ok hth)
  have H := specPartAll_any v zs t m w h (by omega)
  obtain ⟨a1, a2, a3, a4⟩ := paF_eq (t := t) m zs 0 hth
  rw [pallF_yes (thin_ok hth) (by rw [inB_mk ⟨ht, ht'⟩, inB_mk ⟨by omega, by omega⟩]; rfl), a1, Int.zero_add] at H
  refine H.mono ?_
  rintro e w' ⟨r, rfl, own, hB⟩
  have hi := own.ints
  obtain ⟨a, c, rfl⟩ := hi.len
  have hn := a2.1
  dsimp only at hi ⊢
  rw [hn] at hi ⊢
  exact ⟨a, c, rfl, hi, hB⟩
end Go.Proofs.Ytocpigibognfpaa
