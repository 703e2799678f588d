/-
  No statement is proved here: the marks that the law lays into a slice of fractions of its own, and how it looks for them; condition: at most 2097152 of them.
-/
import Derived.Test.YtekejhnhkifcfaaFcS
namespace Go.Proofs.Ytekejhnhkifcfaa
open Go.ChangeShapes Go.WideShapes Go.ChangeAt Go.RowKit

theorem wrap_inFc (_ : Int) : True ∧ True := ⟨trivial, trivial⟩
def markFc (k : Int) (j : Nat) : Fc := (k + 2 * (j : Int), k + 2 * (j : Int) + 1)
theorem markFc_is (k : Int) (j : Nat) : IsFc (markFc k j) := ⟨trivial, trivial⟩
def marksFc (k : Int) (n : Nat) : List Fc := (List.range n).map (markFc k)
theorem marksFc_length (k : Int) (n : Nat) : (marksFc k n).length = n := by simp [marksFc]
theorem marksFc_get (k : Int) (n j : Nat) (h : j < n) : atFc (marksFc k n) j = markFc k j := by simp [atFc, marksFc, List.getD, h]
theorem marksFc_is (k : Int) (n j : Nat) : IsFc (atFc (marksFc k n) j) := by
  by_cases h : j < n
  · rw [marksFc_get k n j h]
    exact markFc_is k j
  · have : atFc (marksFc k n) j = (0, 0) := by unfold atFc; simp [List.getD, List.getElem?_eq_none (show (marksFc k n).length ≤ j by rw [marksFc_length]; omega)]
    rw [this]
    simp [IsFc]
/-- The first j marked. -/
def mtFc (k : Int) (ys : List Fc) (j : Nat) : List Fc := marksFc k j ++ ys.drop j
theorem mtFc_length (k : Int) (ys : List Fc) (j : Nat) (hj : j ≤ ys.length) : (mtFc k ys j).length = ys.length := by simp [mtFc, marksFc_length]; omega
theorem mtFc_all (k : Int) (ys : List Fc) : mtFc k ys ys.length = marksFc k ys.length := by simp [mtFc]
theorem mtFc_zero (k : Int) (ys : List Fc) : mtFc k ys 0 = ys := by simp [mtFc, marksFc]
theorem mtFc_step (k : Int) (ys : List Fc) (j : Nat) (hj : j < ys.length) : (mtFc k ys j).set j (markFc k j) = mtFc k ys (j + 1) := by
  have e : ys.drop j = atFc ys j :: ys.drop (j + 1) := by
    rw [List.drop_eq_getElem_cons hj]
    simp [atFc, List.getD, List.getElem?_eq_getElem hj]
  rw [mtFc, e, List.set_append, if_neg (by simp [marksFc_length]), marksFc_length, Nat.sub_self, List.set_cons_zero, mtFc, marksFc, marksFc, List.range_succ, List.map_append]
  simp

set_option maxRecDepth 100000 in
set_option maxHeartbeats 2000000 in
theorem markFc_any (v : Value) (ys : List Fc) (base : Nat) (w : World) (k : Int) (h : OwnFc w base v ys) (hn : ys.length ≤ 2097152) (hk : 0 ≤ k) (hk' : k ≤ 1000000000) :
    Calls Try.prog 29 #[v, .int .i64 k] w fun e w' => e = .returned (.int .i64 (k + 2 * (ys.length : Int))) ∧ OwnFc w' base v (marksFc k ys.length) ∧ w.grownBy w' v.ownBlock := by
  have hrow := h.row
  obtain ⟨n, hln⟩ : ∃ n, n = ys.length := ⟨_, rfl⟩
  have HL := Lib.hid hln
  unfold OwnFc
  rw [marksFc_length, ← hln]
  rw [← hln] at hrow hn
  clear h hln
  have HM := Lib.hid fun j => marksFc_is k n j
  rcases hrow.2 with ⟨rfl, rfl⟩ | ⟨g, cap, cur, rfl, _, hg, _⟩
  · clear hrow HL
    go_enter Try.func29, Try.ntmps29
    go_wp2
    go_rounds 1
    go_ret
    exact ⟨by simp, ⟨HM.out, by simpa [marksFc, cellsFc] using World.ownsRow_nil _ _ _ _⟩, World.grownBy.refl _ _⟩
  · clear hg
    have HFL := Lib.hid fun j (hj : j ≤ n) => mtFc_length k ys j (by rw [← HL.out]; exact hj)
    have HST := Lib.hid fun j (hj : j < n) => mtFc_step k ys j (by rw [← HL.out]; exact hj)
    have HW : Hid (w.ownsRow base 38 2 (.slice (some ⟨g, 0, none⟩) n cap) n (cellsFc (mtFc k ys 0))) := by rw [mtFc_zero]; exact hrow
    have HE : Hid (mtFc k ys n = marksFc k n) := by rw [HL.out]; exact mtFc_all k ys
    clear hrow
    go_enter Try.func29, Try.ntmps29
    go_wp2
    go_loopw [1, 5] (fun kk i wr => ∃ (j : Nat), j ≤ n ∧ i = .int .i64 j ∧ kk = .int .i64 (k + 2 * (j : Int)) ∧ Hid (wr.ownsRow base 38 2 (.slice (some ⟨g, 0, none⟩) n cap) n (cellsFc (mtFc k ys j))) ∧ Hid (w.grownBy wr (some g))) (fun _ i _ => n - (intOf i).toNat)
    case atStart => exact ⟨0, Nat.zero_le _, rfl, by go_num, HW, World.grownBy.refl _ _⟩
    case round =>
      obtain ⟨j, hj, rfl, rfl, hO, hG⟩ := hrel
      by_cases hlt : j < n
      · have hfill : j < (mtFc k ys j).length := by rw [HFL.out j hj, ← HL.out]; exact hlt
        have hcy := cellsFc_get (mtFc k ys j) j hfill
        generalize atFc (mtFc k ys j) j = y at hcy
        obtain ⟨y0, y1⟩ := y
        simp only at hcy
        have c0 := (hO.out.cellAt (j * 2) (by omega)).trans hcy.1
        have c1 := (hO.out.cellAt (j * 2 + 1) (by omega)).trans hcy.2
        have f0 : ∀ o : Nat, wr.frozen? ⟨g, o, none⟩ = false := fun o => hO.out.frozenAt o
        have HLT := Lib.hid hlt
        have HFI := Lib.hid hfill
        clear hcy hfill
        have hjn : (j : Int) < (n : Int) := by omega
        go_wp2
        go_roundw
        case rel =>
          have s1 := hO.out.stored (j * 2) (Value.int .i64 (k + 2 * (j : Int)))
          have s2 := s1.1.stored (j * 2 + 1) (Value.int .i64 (k + 2 * (j : Int) + 1))
          have e := (cellsFc_set (mtFc k ys j) j (markFc k j) HFI.out).trans (congrArg cellsFc (HST.out j HLT.out))
          have s2' := s2.1
          replace s2' := (show _ = cellsFc (mtFc k ys (j + 1)) from e) ▸ s2'
          exact ⟨j + 1, by omega, by go_num, by go_num, Lib.hid s2', Lib.hid (grown_tr (grown_tr hG.out s1.2) s2.2)⟩
        case measure => simp [intOf]; omega
      · have hkn : j = n := by omega
        subst hkn
        go_wp2
        go_ret
        refine ⟨rfl, ⟨HM.out, ?_⟩, hG.out⟩
        rw [← HE.out]
        exact hO.out

end Go.Proofs.Ytekejhnhkifcfaa
