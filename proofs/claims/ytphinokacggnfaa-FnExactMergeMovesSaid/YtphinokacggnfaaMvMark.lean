/-
  No statement is proved here: the marks that the law lays into a slice of moves of its own, and how it looks for them; condition: at most 2097152 of them.
-/
import Derived.Test.YtphinokacggnfaaMvS
namespace Go.Proofs.Ytphinokacggnfaa
open Go.ChangeShapes Go.WideShapes Go.ChangeAt Go.RowKit

theorem wrap_inMv (z : Int) : (-128 ≤ IntKind.i8.wrap z ∧ IntKind.i8.wrap z ≤ 127) ∧ (-128 ≤ IntKind.i8.wrap z ∧ IntKind.i8.wrap z ≤ 127) ∧ (-32768 ≤ IntKind.i16.wrap z ∧ IntKind.i16.wrap z ≤ 32767) := by
  refine ⟨⟨?_, ?_⟩, ⟨?_, ?_⟩, ⟨?_, ?_⟩⟩ <;> (simp [IntKind.wrap, IntKind.bits, IntKind.signed]; omega)
def markMv (k : Int) (j : Nat) : Mv := (IntKind.i8.wrap (k + 3 * (j : Int)), IntKind.i8.wrap (k + 3 * (j : Int) + 1), IntKind.i16.wrap (k + 3 * (j : Int) + 1 + 1))
theorem markMv_is (k : Int) (j : Nat) : IsMv (markMv k j) := ⟨(wrap_inMv _).1, (wrap_inMv _).2.1, (wrap_inMv _).2.2⟩
def marksMv (k : Int) (n : Nat) : List Mv := (List.range n).map (markMv k)
theorem marksMv_length (k : Int) (n : Nat) : (marksMv k n).length = n := by simp [marksMv]
theorem marksMv_get (k : Int) (n j : Nat) (h : j < n) : atMv (marksMv k n) j = markMv k j := by simp [atMv, marksMv, List.getD, h]
theorem marksMv_is (k : Int) (n j : Nat) : IsMv (atMv (marksMv k n) j) := by
  by_cases h : j < n
  · rw [marksMv_get k n j h]
    exact markMv_is k j
  · have : atMv (marksMv k n) j = (0, 0, 0) := by unfold atMv; simp [List.getD, List.getElem?_eq_none (show (marksMv k n).length ≤ j by rw [marksMv_length]; omega)]
    rw [this]
    simp [IsMv]
/-- The first j marked. -/
def mtMv (k : Int) (ys : List Mv) (j : Nat) : List Mv := marksMv k j ++ ys.drop j
theorem mtMv_length (k : Int) (ys : List Mv) (j : Nat) (hj : j ≤ ys.length) : (mtMv k ys j).length = ys.length := by simp [mtMv, marksMv_length]; omega
theorem mtMv_all (k : Int) (ys : List Mv) : mtMv k ys ys.length = marksMv k ys.length := by simp [mtMv]
theorem mtMv_zero (k : Int) (ys : List Mv) : mtMv k ys 0 = ys := by simp [mtMv, marksMv]
theorem mtMv_step (k : Int) (ys : List Mv) (j : Nat) (hj : j < ys.length) : (mtMv k ys j).set j (markMv k j) = mtMv k ys (j + 1) := by
  have e : ys.drop j = atMv ys j :: ys.drop (j + 1) := by
    rw [List.drop_eq_getElem_cons hj]
    simp [atMv, List.getD, List.getElem?_eq_getElem hj]
  rw [mtMv, e, List.set_append, if_neg (by simp [marksMv_length]), marksMv_length, Nat.sub_self, List.set_cons_zero, mtMv, marksMv, marksMv, List.range_succ, List.map_append]
  simp

set_option maxRecDepth 100000 in
set_option maxHeartbeats 2000000 in
theorem markMv_any (v : Value) (ys : List Mv) (base : Nat) (w : World) (k : Int) (h : OwnMv w base v ys) (hn : ys.length ≤ 2097152) (hk : 0 ≤ k) (hk' : k ≤ 1000000000) :
    Calls Try.prog 26 #[v, .int .i64 k] w fun e w' => e = .returned (.int .i64 (k + 3 * (ys.length : Int))) ∧ OwnMv w' base v (marksMv k ys.length) ∧ w.grownBy w' v.ownBlock := by
  have hrow := h.row
  obtain ⟨n, hln⟩ : ∃ n, n = ys.length := ⟨_, rfl⟩
  have HL := Lib.hid hln
  unfold OwnMv
  rw [marksMv_length, ← hln]
  rw [← hln] at hrow hn
  clear h hln
  have HM := Lib.hid fun j => marksMv_is k n j
  rcases hrow.2 with ⟨rfl, rfl⟩ | ⟨g, cap, cur, rfl, _, hg, _⟩
  · clear hrow HL
    go_enter Try.func26, Try.ntmps26
    go_wp2
    go_rounds 1
    go_ret
    exact ⟨by simp, ⟨HM.out, by simpa [marksMv, cellsMv] using World.ownsRow_nil _ _ _ _⟩, World.grownBy.refl _ _⟩
  · clear hg
    have HFL := Lib.hid fun j (hj : j ≤ n) => mtMv_length k ys j (by rw [← HL.out]; exact hj)
    have HST := Lib.hid fun j (hj : j < n) => mtMv_step k ys j (by rw [← HL.out]; exact hj)
    have HW : Hid (w.ownsRow base 53 3 (.slice (some ⟨g, 0, none⟩) n cap) n (cellsMv (mtMv k ys 0))) := by rw [mtMv_zero]; exact hrow
    have HE : Hid (mtMv k ys n = marksMv k n) := by rw [HL.out]; exact mtMv_all k ys
    clear hrow
    go_enter Try.func26, Try.ntmps26
    go_wp2
    go_loopw [1, 5] (fun kk i wr => ∃ (j : Nat), j ≤ n ∧ i = .int .i64 j ∧ kk = .int .i64 (k + 3 * (j : Int)) ∧ Hid (wr.ownsRow base 53 3 (.slice (some ⟨g, 0, none⟩) n cap) n (cellsMv (mtMv k ys j))) ∧ Hid (w.grownBy wr (some g))) (fun _ i _ => n - (intOf i).toNat)
    case atStart => exact ⟨0, Nat.zero_le _, rfl, by go_num, HW, World.grownBy.refl _ _⟩
    case round =>
      obtain ⟨j, hj, rfl, rfl, hO, hG⟩ := hrel
      by_cases hlt : j < n
      · have hfill : j < (mtMv k ys j).length := by rw [HFL.out j hj, ← HL.out]; exact hlt
        have hcy := cellsMv_get (mtMv k ys j) j hfill
        generalize atMv (mtMv k ys j) j = y at hcy
        obtain ⟨y0, y1, y2⟩ := y
        simp only at hcy
        have c0 := (hO.out.cellAt (j * 3) (by omega)).trans hcy.1
        have c1 := (hO.out.cellAt (j * 3 + 1) (by omega)).trans hcy.2.1
        have c2 := (hO.out.cellAt (j * 3 + 2) (by omega)).trans hcy.2.2
        have f0 : ∀ o : Nat, wr.frozen? ⟨g, o, none⟩ = false := fun o => hO.out.frozenAt o
        have HLT := Lib.hid hlt
        have HFI := Lib.hid hfill
        clear hcy hfill
        have hjn : (j : Int) < (n : Int) := by omega
        go_wp2
        go_roundw
        case rel =>
          have s1 := hO.out.stored (j * 3) (Value.int .i8 (IntKind.i8.wrap (k + 3 * (j : Int))))
          have s2 := s1.1.stored (j * 3 + 1) (Value.int .i8 (IntKind.i8.wrap (k + 3 * (j : Int) + 1)))
          have s3 := s2.1.stored (j * 3 + 2) (Value.int .i16 (IntKind.i16.wrap (k + 3 * (j : Int) + 1 + 1)))
          have e := (cellsMv_set (mtMv k ys j) j (markMv k j) HFI.out).trans (congrArg cellsMv (HST.out j HLT.out))
          have s3' := s3.1
          replace s3' := (show _ = cellsMv (mtMv k ys (j + 1)) from e) ▸ s3'
          exact ⟨j + 1, by omega, by go_num, by go_num, Lib.hid s3', Lib.hid (grown_tr (grown_tr (grown_tr hG.out s1.2) s2.2) s3.2)⟩
        case measure => simp [intOf]; omega
      · have hkn : j = n := by omega
        subst hkn
        go_wp2
        go_ret
        refine ⟨rfl, ⟨HM.out, ?_⟩, hG.out⟩
        rw [← HE.out]
        exact hO.out

end Go.Proofs.Ytphinokacggnfaa
