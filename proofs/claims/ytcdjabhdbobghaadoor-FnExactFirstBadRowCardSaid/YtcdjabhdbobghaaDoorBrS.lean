/-
  No statement is proved here: the first row that cannot be knitted, in the document's own text; condition: at most 1048576 rows of at most 1048576 bytes.
-/
import Derived.Test.YtcdjabhdbobghaaDoorKnitS
namespace Go.Proofs.YtcdjabhdbobghaaDoor
open Go.ChangeShapes Go.WideShapes Go.ChangeAt Go.RowKit

/-- What FirstBadRow answers. -/
def frowF (c : Int) (L : List ByteArray) : Int × Int := if inB c 1 60 = true then (if badF c L < 0 then (0, 6) else (badF c L, 0)) else (0, 2)

set_option maxHeartbeats 2000000 in
theorem specFrow_any (c : Int) (v : Value) (L : List ByteArray) (w : World) (h : Strs w v L) (hn : L.length ≤ 1048576) (hs : ∀ j, j < L.length → (rowAt L j).size ≤ 1048576) :
    Calls Tryd.prog 19 #[.int .i64 c, v] w fun e w' => e = .returned (.tuple #[.int .i64 (frowF c L).1, .int .i64 (frowF c L).2]) ∧ Below w.heap.size w w' := by
  have HC := Lib.hid fun wx => specCast_any c wx
  have HB := Lib.hid (specBad_any c v L w h hn hs)
  obtain ⟨a1, cp, rfl⟩ := h.len
  clear h hn hs
  unfold frowF
  cases hc : inB c 1 60 with
  | false =>
    rw [hc] at HC
    rw [if_neg (by decide)]
    go_enter Tryd.func19, Tryd.ntmps19
    go_wp2_with fail
    refine (HC.out _).mono ?_
    rintro e w1 ⟨rfl, rfl⟩
    go_wp2
    go_ret2
    exact ⟨rfl, Below.refl _ _⟩
  | true =>
    rw [hc] at HC
    rw [if_pos rfl]
    generalize badF c L = b at *
    by_cases hb : b < 0
    · rw [if_pos hb]
      go_enter Tryd.func19, Tryd.ntmps19
      go_wp2_with fail
      refine (HC.out _).mono ?_
      rintro e w1 ⟨rfl, rfl⟩
      go_wp2_with fail
      refine HB.out.mono ?_
      rintro e w1 ⟨rfl, rfl⟩
      go_wp2
      go_ret2
      exact ⟨rfl, Below.refl _ _⟩
    · rw [if_neg hb]
      go_enter Tryd.func19, Tryd.ntmps19
      go_wp2_with fail
      refine (HC.out _).mono ?_
      rintro e w1 ⟨rfl, rfl⟩
      go_wp2_with fail
      refine HB.out.mono ?_
      rintro e w1 ⟨rfl, rfl⟩
      go_wp2
      go_ret2
      exact ⟨rfl, Below.refl _ _⟩
end Go.Proofs.YtcdjabhdbobghaaDoor
