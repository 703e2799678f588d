/-
  No statement is proved here: the code of a heap that has to have some wool, in the document's own text; condition: numbers that are int32s.
-/
import Derived.Test.YtekejhnhkifcfaaHeapX
namespace Go.Proofs.Ytekejhnhkifcfaa
open Go.RowKit

def someF (z : Nat → Int) : Int := if okH z = true then (if sumTo z 8 = 0 then 6 else 0) else 1
theorem specSome_any (z : Nat → Int) (b off : Nat) (w : World) (hH : HeapAt w b off z) (hz : bd32 z) :
    Calls Try.prog 43 #[.pointer (some ⟨b, off, none⟩)] w fun e w' => e = .returned (.int .i64 (someF z)) ∧ w = w' := by
  have H1 := Lib.hid (l01Heap_any z b off w hH hz)
  have H2 := Lib.hid (l01Grams_any z b off w hH hz)
  clear hH hz
  unfold someF
  cases ho : okH z with
  | false =>
    rw [ho] at H1
    rw [if_neg (by decide)]
    go_enter Try.func43, Try.ntmps43
    go_wp2_with fail
    refine H1.out.mono ?_
    rintro e w1 ⟨rfl, rfl⟩
    go_wp2_with fail
    go_ret
    exact ⟨rfl, rfl⟩
  | true =>
    rw [ho] at H1
    rw [if_pos rfl]
    by_cases hs : sumTo z 8 = 0
    · rw [if_pos hs]
      rw [hs] at H2
      clear hs ho
      go_enter Try.func43, Try.ntmps43
      go_wp2_with fail
      refine H1.out.mono ?_
      rintro e w1 ⟨rfl, rfl⟩
      go_wp2_with fail
      refine H2.out.mono ?_
      rintro e w1 ⟨rfl, rfl⟩
      go_wp2_with fail
      go_ret
      exact ⟨rfl, rfl⟩
    · rw [if_neg hs]
      generalize sumTo z 8 = s at *
      clear ho
      go_enter Try.func43, Try.ntmps43
      go_wp2_with fail
      refine H1.out.mono ?_
      rintro e w1 ⟨rfl, rfl⟩
      go_wp2_with fail
      refine H2.out.mono ?_
      rintro e w1 ⟨rfl, rfl⟩
      go_wp2_with fail
      go_ret
      exact ⟨rfl, rfl⟩
end Go.Proofs.Ytekejhnhkifcfaa
