/-
  No statement is proved here: the marks that the law lays into a slice of lots of its own, and how it looks for them; condition: at most 2097152 of them.
-/
import Derived.Test.YtapimmlhcbjgoaaLtS
namespace Go.Proofs.Ytapimmlhcbjgoaa
open Go.ChangeShapes Go.WideShapes Go.ChangeAt Go.RowKit

theorem wrap_inLt (z : Int) : (-128 ≤ IntKind.i8.wrap z ∧ IntKind.i8.wrap z ≤ 127) ∧ (-32768 ≤ IntKind.i16.wrap z ∧ IntKind.i16.wrap z ≤ 32767) := by
  refine ⟨⟨?_, ?_⟩, ⟨?_, ?_⟩⟩ <;> (simp [IntKind.wrap, IntKind.bits, IntKind.signed]; omega)
def markLt (k : Int) (j : Nat) : Lt := (IntKind.i8.wrap (k + 2 * (j : Int)), IntKind.i16.wrap (k + 2 * (j : Int) + 1))
theorem markLt_is (k : Int) (j : Nat) : IsLt (markLt k j) := ⟨(wrap_inLt _).1, (wrap_inLt _).2⟩
def marksLt (k : Int) (n : Nat) : List Lt := (List.range n).map (markLt k)
theorem marksLt_length (k : Int) (n : Nat) : (marksLt k n).length = n := by simp [marksLt]
theorem marksLt_get (k : Int) (n j : Nat) (h : j < n) : atLt (marksLt k n) j = markLt k j := by simp [atLt, marksLt, List.getD, h]
theorem marksLt_is (k : Int) (n j : Nat) : IsLt (atLt (marksLt k n) j) := by
  by_cases h : j < n
  · rw [marksLt_get k n j h]
    exact markLt_is k j
  · have : atLt (marksLt k n) j = (0, 0) := by unfold atLt; simp [List.getD, List.getElem?_eq_none (show (marksLt k n).length ≤ j by rw [marksLt_length]; omega)]
    rw [this]
    simp [IsLt]
/-- The first j marked. -/
def mtLt (k : Int) (ys : List Lt) (j : Nat) : List Lt := marksLt k j ++ ys.drop j
theorem mtLt_length (k : Int) (ys : List Lt) (j : Nat) (hj : j ≤ ys.length) : (mtLt k ys j).length = ys.length := by simp [mtLt, marksLt_length]; omega
theorem mtLt_all (k : Int) (ys : List Lt) : mtLt k ys ys.length = marksLt k ys.length := by simp [mtLt]
theorem mtLt_zero (k : Int) (ys : List Lt) : mtLt k ys 0 = ys := by simp [mtLt, marksLt]
theorem mtLt_step (k : Int) (ys : List Lt) (j : Nat) (hj : j < ys.length) : (mtLt k ys j).set j (markLt k j) = mtLt k ys (j + 1) := by
  have e : ys.drop j = atLt ys j :: ys.drop (j + 1) := by
    rw [List.drop_eq_getElem_cons hj]
    simp [atLt, List.getD, List.getElem?_eq_getElem hj]
  rw [mtLt, e, List.set_append, if_neg (by simp [marksLt_length]), marksLt_length, Nat.sub_self, List.set_cons_zero, mtLt, marksLt, marksLt, List.range_succ, List.map_append]
  simp

set_option maxRecDepth 100000 in
set_option maxHeartbeats 2000000 in
theorem markLt_any (v : Value) (ys : List Lt) (base : Nat) (w : World) (k : Int) (h : OwnLt w base v ys) (hn : ys.length ≤ 2097152) (hk : 0 ≤ k) (hk' : k ≤ 1000000000) :
    Calls Try.prog 14 #[v, .int .i64 k] w fun e w' => e = .returned (.int .i64 (k + 2 * (ys.length : Int))) ∧ OwnLt w' base v (marksLt k ys.length) ∧ w.grownBy w' v.ownBlock := by
  have hrow := h.row
  obtain ⟨n, hln⟩ : ∃ n, n = ys.length := ⟨_, rfl⟩
  have HL := Lib.hid hln
  unfold OwnLt
  rw [marksLt_length, ← hln]
  rw [← hln] at hrow hn
  clear h hln
  have HM := Lib.hid fun j => marksLt_is k n j
  rcases hrow.2 with ⟨rfl, rfl⟩ | ⟨g, cap, cur, rfl, _, hg, _⟩
  · clear hrow HL
    go_enter Try.func14, Try.ntmps14
    go_wp2
    go_rounds 1
    go_ret
    exact ⟨by simp, ⟨HM.out, by simpa [marksLt, cellsLt] using World.ownsRow_nil _ _ _ _⟩, World.grownBy.refl _ _⟩
  · clear hg
    have HFL := Lib.hid fun j (hj : j ≤ n) => mtLt_length k ys j (by rw [← HL.out]; exact hj)
    have HST := Lib.hid fun j (hj : j < n) => mtLt_step k ys j (by rw [← HL.out]; exact hj)
    have HW : Hid (w.ownsRow base 46 2 (.slice (some ⟨g, 0, none⟩) n cap) n (cellsLt (mtLt k ys 0))) := by rw [mtLt_zero]; exact hrow
    have HE : Hid (mtLt k ys n = marksLt k n) := by rw [HL.out]; exact mtLt_all k ys
    clear hrow
    go_enter Try.func14, Try.ntmps14
    go_wp2
    go_loopw [1, 5] (fun kk i wr => ∃ (j : Nat), j ≤ n ∧ i = .int .i64 j ∧ kk = .int .i64 (k + 2 * (j : Int)) ∧ Hid (wr.ownsRow base 46 2 (.slice (some ⟨g, 0, none⟩) n cap) n (cellsLt (mtLt k ys j))) ∧ Hid (w.grownBy wr (some g))) (fun _ i _ => n - (intOf i).toNat)
    case atStart => exact ⟨0, Nat.zero_le _, rfl, by go_num, HW, World.grownBy.refl _ _⟩
    case round =>
      obtain ⟨j, hj, rfl, rfl, hO, hG⟩ := hrel
      by_cases hlt : j < n
      · have hfill : j < (mtLt k ys j).length := by rw [HFL.out j hj, ← HL.out]; exact hlt
        have hcy := cellsLt_get (mtLt k ys j) j hfill
        generalize atLt (mtLt k ys j) j = y at hcy
        obtain ⟨y0, y1⟩ := y
        simp only at hcy
        have c0 := (hO.out.cellAt (j * 2) (by omega)).trans hcy.1
        have c1 := (hO.out.cellAt (j * 2 + 1) (by omega)).trans hcy.2
        have f0 : ∀ o : Nat, wr.frozen? ⟨g, o, none⟩ = false := fun o => hO.out.frozenAt o
        have HLT := Lib.hid hlt
        have HFI := Lib.hid hfill
        clear hcy hfill
        have hjn : (j : Int) < (n : Int) := by omega
        go_wp2
        go_roundw
        case rel =>
          have s1 := hO.out.stored (j * 2) (Value.int .i8 (IntKind.i8.wrap (k + 2 * (j : Int))))
          have s2 := s1.1.stored (j * 2 + 1) (Value.int .i16 (IntKind.i16.wrap (k + 2 * (j : Int) + 1)))
          have e := (cellsLt_set (mtLt k ys j) j (markLt k j) HFI.out).trans (congrArg cellsLt (HST.out j HLT.out))
          have s2' := s2.1
          replace s2' := (show _ = cellsLt (mtLt k ys (j + 1)) from e) ▸ s2'
          exact ⟨j + 1, by omega, by go_num, by go_num, Lib.hid s2', Lib.hid (grown_tr (grown_tr hG.out s1.2) s2.2)⟩
        case measure => simp [intOf]; omega
      · have hkn : j = n := by omega
        subst hkn
        go_wp2
        go_ret
        refine ⟨rfl, ⟨HM.out, ?_⟩, hG.out⟩
        rw [← HE.out]
        exact hO.out

end Go.Proofs.Ytapimmlhcbjgoaa
