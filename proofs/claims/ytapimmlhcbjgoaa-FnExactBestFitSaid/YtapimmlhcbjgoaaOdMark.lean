/-
  No statement is proved here: the marks that the law lays into a slice of orders of its own, and how it looks for them; condition: at most 2097152 of them.
-/
import Derived.Test.YtapimmlhcbjgoaaOdS
namespace Go.Proofs.Ytapimmlhcbjgoaa
open Go.ChangeShapes Go.WideShapes Go.ChangeAt Go.RowKit

theorem wrap_inOd (z : Int) : (-128 ≤ IntKind.i8.wrap z ∧ IntKind.i8.wrap z ≤ 127) ∧ (-32768 ≤ IntKind.i16.wrap z ∧ IntKind.i16.wrap z ≤ 32767) := by
  refine ⟨⟨?_, ?_⟩, ⟨?_, ?_⟩⟩ <;> (simp [IntKind.wrap, IntKind.bits, IntKind.signed]; omega)
def markOd (k : Int) (j : Nat) : Od := (IntKind.i8.wrap (k + 2 * (j : Int)), IntKind.i16.wrap (k + 2 * (j : Int) + 1))
theorem markOd_is (k : Int) (j : Nat) : IsOd (markOd k j) := ⟨(wrap_inOd _).1, (wrap_inOd _).2⟩
def marksOd (k : Int) (n : Nat) : List Od := (List.range n).map (markOd k)
theorem marksOd_length (k : Int) (n : Nat) : (marksOd k n).length = n := by simp [marksOd]
theorem marksOd_get (k : Int) (n j : Nat) (h : j < n) : atOd (marksOd k n) j = markOd k j := by simp [atOd, marksOd, List.getD, h]
theorem marksOd_is (k : Int) (n j : Nat) : IsOd (atOd (marksOd k n) j) := by
  by_cases h : j < n
  · rw [marksOd_get k n j h]
    exact markOd_is k j
  · have : atOd (marksOd k n) j = (0, 0) := by unfold atOd; simp [List.getD, List.getElem?_eq_none (show (marksOd k n).length ≤ j by rw [marksOd_length]; omega)]
    rw [this]
    simp [IsOd]
/-- The first j marked. -/
def mtOd (k : Int) (ys : List Od) (j : Nat) : List Od := marksOd k j ++ ys.drop j
theorem mtOd_length (k : Int) (ys : List Od) (j : Nat) (hj : j ≤ ys.length) : (mtOd k ys j).length = ys.length := by simp [mtOd, marksOd_length]; omega
theorem mtOd_all (k : Int) (ys : List Od) : mtOd k ys ys.length = marksOd k ys.length := by simp [mtOd]
theorem mtOd_zero (k : Int) (ys : List Od) : mtOd k ys 0 = ys := by simp [mtOd, marksOd]
theorem mtOd_step (k : Int) (ys : List Od) (j : Nat) (hj : j < ys.length) : (mtOd k ys j).set j (markOd k j) = mtOd k ys (j + 1) := by
  have e : ys.drop j = atOd ys j :: ys.drop (j + 1) := by
    rw [List.drop_eq_getElem_cons hj]
    simp [atOd, List.getD, List.getElem?_eq_getElem hj]
  rw [mtOd, e, List.set_append, if_neg (by simp [marksOd_length]), marksOd_length, Nat.sub_self, List.set_cons_zero, mtOd, marksOd, marksOd, List.range_succ, List.map_append]
  simp

set_option maxRecDepth 100000 in
set_option maxHeartbeats 2000000 in
theorem markOd_any (v : Value) (ys : List Od) (base : Nat) (w : World) (k : Int) (h : OwnOd w base v ys) (hn : ys.length ≤ 2097152) (hk : 0 ≤ k) (hk' : k ≤ 1000000000) :
    Calls Try.prog 15 #[v, .int .i64 k] w fun e w' => e = .returned (.int .i64 (k + 2 * (ys.length : Int))) ∧ OwnOd w' base v (marksOd k ys.length) ∧ w.grownBy w' v.ownBlock := by
  have hrow := h.row
  obtain ⟨n, hln⟩ : ∃ n, n = ys.length := ⟨_, rfl⟩
  have HL := Lib.hid hln
  unfold OwnOd
  rw [marksOd_length, ← hln]
  rw [← hln] at hrow hn
  clear h hln
  have HM := Lib.hid fun j => marksOd_is k n j
  rcases hrow.2 with ⟨rfl, rfl⟩ | ⟨g, cap, cur, rfl, _, hg, _⟩
  · clear hrow HL
    go_enter Try.func15, Try.ntmps15
    go_wp2
    go_rounds 1
    go_ret
    exact ⟨by simp, ⟨HM.out, by simpa [marksOd, cellsOd] using World.ownsRow_nil _ _ _ _⟩, World.grownBy.refl _ _⟩
  · clear hg
    have HFL := Lib.hid fun j (hj : j ≤ n) => mtOd_length k ys j (by rw [← HL.out]; exact hj)
    have HST := Lib.hid fun j (hj : j < n) => mtOd_step k ys j (by rw [← HL.out]; exact hj)
    have HW : Hid (w.ownsRow base 49 2 (.slice (some ⟨g, 0, none⟩) n cap) n (cellsOd (mtOd k ys 0))) := by rw [mtOd_zero]; exact hrow
    have HE : Hid (mtOd k ys n = marksOd k n) := by rw [HL.out]; exact mtOd_all k ys
    clear hrow
    go_enter Try.func15, Try.ntmps15
    go_wp2
    go_loopw [1, 5] (fun kk i wr => ∃ (j : Nat), j ≤ n ∧ i = .int .i64 j ∧ kk = .int .i64 (k + 2 * (j : Int)) ∧ Hid (wr.ownsRow base 49 2 (.slice (some ⟨g, 0, none⟩) n cap) n (cellsOd (mtOd k ys j))) ∧ Hid (w.grownBy wr (some g))) (fun _ i _ => n - (intOf i).toNat)
    case atStart => exact ⟨0, Nat.zero_le _, rfl, by go_num, HW, World.grownBy.refl _ _⟩
    case round =>
      obtain ⟨j, hj, rfl, rfl, hO, hG⟩ := hrel
      by_cases hlt : j < n
      · have hfill : j < (mtOd k ys j).length := by rw [HFL.out j hj, ← HL.out]; exact hlt
        have hcy := cellsOd_get (mtOd k ys j) j hfill
        generalize atOd (mtOd k ys j) j = y at hcy
        obtain ⟨y0, y1⟩ := y
        simp only at hcy
        have c0 := (hO.out.cellAt (j * 2) (by omega)).trans hcy.1
        have c1 := (hO.out.cellAt (j * 2 + 1) (by omega)).trans hcy.2
        have f0 : ∀ o : Nat, wr.frozen? ⟨g, o, none⟩ = false := fun o => hO.out.frozenAt o
        have HLT := Lib.hid hlt
        have HFI := Lib.hid hfill
        clear hcy hfill
        have hjn : (j : Int) < (n : Int) := by omega
        go_wp2
        go_roundw
        case rel =>
          have s1 := hO.out.stored (j * 2) (Value.int .i8 (IntKind.i8.wrap (k + 2 * (j : Int))))
          have s2 := s1.1.stored (j * 2 + 1) (Value.int .i16 (IntKind.i16.wrap (k + 2 * (j : Int) + 1)))
          have e := (cellsOd_set (mtOd k ys j) j (markOd k j) HFI.out).trans (congrArg cellsOd (HST.out j HLT.out))
          have s2' := s2.1
          replace s2' := (show _ = cellsOd (mtOd k ys (j + 1)) from e) ▸ s2'
          exact ⟨j + 1, by omega, by go_num, by go_num, Lib.hid s2', Lib.hid (grown_tr (grown_tr hG.out s1.2) s2.2)⟩
        case measure => simp [intOf]; omega
      · have hkn : j = n := by omega
        subst hkn
        go_wp2
        go_ret
        refine ⟨rfl, ⟨HM.out, ?_⟩, hG.out⟩
        rw [← HE.out]
        exact hO.out

end Go.Proofs.Ytapimmlhcbjgoaa
