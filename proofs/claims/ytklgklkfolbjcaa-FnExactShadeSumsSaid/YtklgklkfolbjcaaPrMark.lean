/-
  No statement is proved here: the marks that the law lays into a list of arrays of its own, and how it looks for them; condition: at most 2097152 arrays.
-/
import Derived.Test.YtklgklkfolbjcaaPr
namespace Go.Proofs.Ytklgklkfolbjcaa
open Go.ChangeShapes Go.WideShapes Go.ChangeAt Go.RowKit

def markPr (k : Int) (j : Nat) : Nat → Int := fun i => k + 2 * (j : Int) + (i : Int)
def marksPr (k : Int) (n : Nat) : List (Nat → Int) := (List.range n).map (markPr k)
theorem marksPr_length (k : Int) (n : Nat) : (marksPr k n).length = n := by simp [marksPr]
theorem marksPr_get (k : Int) (n j : Nat) (h : j < n) : atPr (marksPr k n) j = markPr k j := by simp [atPr, marksPr, List.getD, h]
theorem cellsPr_set : ∀ (ys : List (Nat → Int)) (k : Nat) (f : Nat → Int), k < ys.length → (((cellsPr ys).set (k * 2) (.int .i64 (f 0))).set (k * 2 + 1) (.int .i64 (f 1))) = cellsPr (ys.set k f)
  | [], k, y, h => by simp at h
  | x :: ys, 0, y, _ => by simp [cellsPr_cons]
  | x :: ys, k + 1, y, h => by
    have ih := cellsPr_set ys k y (by simpa using h)
    rw [cellsPr_cons, List.set_cons_succ, cellsPr_cons, ← ih, show (k + 1) * 2 = k * 2 + 1 + 1 by omega]
    simp
def mtPr (k : Int) (ys : List (Nat → Int)) (j : Nat) : List (Nat → Int) := marksPr k j ++ ys.drop j
theorem mtPr_length (k : Int) (ys : List (Nat → Int)) (j : Nat) (hj : j ≤ ys.length) : (mtPr k ys j).length = ys.length := by simp [mtPr, marksPr_length]; omega
theorem mtPr_all (k : Int) (ys : List (Nat → Int)) : mtPr k ys ys.length = marksPr k ys.length := by simp [mtPr]
theorem mtPr_zero (k : Int) (ys : List (Nat → Int)) : mtPr k ys 0 = ys := by simp [mtPr, marksPr]
theorem mtPr_step (k : Int) (ys : List (Nat → Int)) (j : Nat) (hj : j < ys.length) : (mtPr k ys j).set j (markPr k j) = mtPr k ys (j + 1) := by
  have e : ys.drop j = atPr ys j :: ys.drop (j + 1) := by
    rw [List.drop_eq_getElem_cons hj]
    simp [atPr, List.getD, List.getElem?_eq_getElem hj]
  rw [mtPr, e, List.set_append, if_neg (by simp [marksPr_length]), marksPr_length, Nat.sub_self, List.set_cons_zero, mtPr, marksPr, marksPr, List.range_succ, List.map_append]
  simp

set_option maxRecDepth 100000 in
set_option maxHeartbeats 4000000 in
theorem markPr_any (v : Value) (ys : List (Nat → Int)) (base : Nat) (w : World) (k : Int) (h : OwnPr w base v ys) (hn : ys.length ≤ 2097152) (hk : 0 ≤ k) (hk' : k ≤ 1000000000) :
    Calls Try.prog 34 #[v, .int .i64 k] w fun e w' => e = .returned (.int .i64 (k + 2 * (ys.length : Int))) ∧ OwnPr w' base v (marksPr k ys.length) ∧ w.grownBy w' v.ownBlock := by
  have hrow := h.row
  obtain ⟨n, hln⟩ : ∃ n, n = ys.length := ⟨_, rfl⟩
  have HL := Lib.hid hln
  unfold OwnPr
  rw [marksPr_length, ← hln]
  rw [← hln] at hrow hn
  clear h hln
  rcases hrow.2 with ⟨rfl, rfl⟩ | ⟨g, cap, cur, rfl, _, hg, _⟩
  · clear hrow HL
    go_enter Try.func34, Try.ntmps34
    go_wp2
    go_rounds 1
    go_ret
    exact ⟨by simp, by simpa [marksPr, cellsPr] using World.ownsRow_nil _ _ _ _, World.grownBy.refl _ _⟩
  · clear hg
    have HFL := Lib.hid fun j (hj : j ≤ n) => mtPr_length k ys j (by rw [← HL.out]; exact hj)
    have HST := Lib.hid fun j (hj : j < n) => mtPr_step k ys j (by rw [← HL.out]; exact hj)
    have HW : Hid (w.ownsRow base 73 2 (.slice (some ⟨g, 0, none⟩) n cap) n (cellsPr (mtPr k ys 0))) := by rw [mtPr_zero]; exact hrow
    have HE : Hid (mtPr k ys n = marksPr k n) := by rw [HL.out]; exact mtPr_all k ys
    clear hrow
    go_enter Try.func34, Try.ntmps34
    go_wp2
    go_loopw [1, 5] (fun kk i wr => ∃ (j : Nat), j ≤ n ∧ i = .int .i64 j ∧ kk = .int .i64 (k + 2 * (j : Int)) ∧ Hid (wr.ownsRow base 73 2 (.slice (some ⟨g, 0, none⟩) n cap) n (cellsPr (mtPr k ys j))) ∧ Hid (w.grownBy wr (some g))) (fun _ i _ => n - (intOf i).toNat)
    case atStart => exact ⟨0, Nat.zero_le _, rfl, by go_num, HW, World.grownBy.refl _ _⟩
    case round =>
      obtain ⟨j, hj, rfl, rfl, hO, hG⟩ := hrel
      by_cases hlt : j < n
      · have hfill : j < (mtPr k ys j).length := by rw [HFL.out j hj, ← HL.out]; exact hlt
        have hcy := cellsPr_get (mtPr k ys j) j hfill
        generalize atPr (mtPr k ys j) j 0 = y0 at *
        generalize atPr (mtPr k ys j) j 1 = y1 at *
        have c0 := (hO.out.cellAt (j * 2) (by omega)).trans hcy.1
        have c1 := (hO.out.cellAt (j * 2 + 1) (by omega)).trans hcy.2
        have f0 : ∀ o : Nat, wr.frozen? ⟨g, o, none⟩ = false := fun o => hO.out.frozenAt o
        have HLT := Lib.hid hlt
        have HFI := Lib.hid hfill
        clear hcy hfill
        have hjn : (j : Int) < (n : Int) := by omega
        have hjb : k + 2 * (j : Int) ≤ 1100000000 := by omega
        go_wp2
        refine wp_loop_rounds 3 ?_
        iterate 3 (rw [rounds_succ]; go_wp2)
        go_roundw
        case rel =>
          have q0 : k + 2 * (j : Int) = markPr k j 0 := by unfold markPr; omega
          have q1 : k + 2 * (j : Int) + 1 = markPr k j 1 := by unfold markPr; omega
          have s1 := hO.out.stored (j * 2) (Value.int .i64 (markPr k j 0))
          have s2 := s1.1.stored (j * 2 + 1) (Value.int .i64 (markPr k j 1))
          have e := (cellsPr_set (mtPr k ys j) j (markPr k j) HFI.out).trans (congrArg cellsPr (HST.out j HLT.out))
          have sz := s2.1
          rw [e] at sz
          refine ⟨j + 1, by omega, by go_num, by go_num, Lib.hid ?_, Lib.hid ?_⟩
          · rw [q1, q0]
            exact sz
          · rw [q1, q0]
            exact grown_tr (grown_tr hG.out s1.2) s2.2
        case measure => simp [intOf]; omega
      · have hkn : j = n := by omega
        subst hkn
        go_wp2
        go_ret
        refine ⟨rfl, ?_, hG.out⟩
        rw [← HE.out]
        exact hO.out
end Go.Proofs.Ytklgklkfolbjcaa
