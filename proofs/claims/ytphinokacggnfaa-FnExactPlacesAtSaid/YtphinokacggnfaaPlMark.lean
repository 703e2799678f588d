/-
  No statement is proved here: the marks that the law lays into a list of arrays of its own, and how it looks for them; condition: at most 2097152 arrays.
-/
import Derived.Test.YtphinokacggnfaaPl
namespace Go.Proofs.Ytphinokacggnfaa
open Go.ChangeShapes Go.WideShapes Go.ChangeAt Go.RowKit

def markPl (k : Int) (j : Nat) : Nat → Int := fun i => k + 5 * (j : Int) + (i : Int)
def marksPl (k : Int) (n : Nat) : List (Nat → Int) := (List.range n).map (markPl k)
theorem marksPl_length (k : Int) (n : Nat) : (marksPl k n).length = n := by simp [marksPl]
theorem marksPl_get (k : Int) (n j : Nat) (h : j < n) : atPl (marksPl k n) j = markPl k j := by simp [atPl, marksPl, List.getD, h]
theorem cellsPl_set : ∀ (ys : List (Nat → Int)) (k : Nat) (f : Nat → Int), k < ys.length → ((((((cellsPl ys).set (k * 5) (.int .i32 (f 0))).set (k * 5 + 1) (.int .i32 (f 1))).set (k * 5 + 2) (.int .i32 (f 2))).set (k * 5 + 3) (.int .i32 (f 3))).set (k * 5 + 4) (.int .i32 (f 4))) = cellsPl (ys.set k f)
  | [], k, y, h => by simp at h
  | x :: ys, 0, y, _ => by simp [cellsPl_cons]
  | x :: ys, k + 1, y, h => by
    have ih := cellsPl_set ys k y (by simpa using h)
    rw [cellsPl_cons, List.set_cons_succ, cellsPl_cons, ← ih, show (k + 1) * 5 = k * 5 + 1 + 1 + 1 + 1 + 1 by omega]
    simp
def mtPl (k : Int) (ys : List (Nat → Int)) (j : Nat) : List (Nat → Int) := marksPl k j ++ ys.drop j
theorem mtPl_length (k : Int) (ys : List (Nat → Int)) (j : Nat) (hj : j ≤ ys.length) : (mtPl k ys j).length = ys.length := by simp [mtPl, marksPl_length]; omega
theorem mtPl_all (k : Int) (ys : List (Nat → Int)) : mtPl k ys ys.length = marksPl k ys.length := by simp [mtPl]
theorem mtPl_zero (k : Int) (ys : List (Nat → Int)) : mtPl k ys 0 = ys := by simp [mtPl, marksPl]
theorem mtPl_step (k : Int) (ys : List (Nat → Int)) (j : Nat) (hj : j < ys.length) : (mtPl k ys j).set j (markPl k j) = mtPl k ys (j + 1) := by
  have e : ys.drop j = atPl ys j :: ys.drop (j + 1) := by
    rw [List.drop_eq_getElem_cons hj]
    simp [atPl, List.getD, List.getElem?_eq_getElem hj]
  rw [mtPl, e, List.set_append, if_neg (by simp [marksPl_length]), marksPl_length, Nat.sub_self, List.set_cons_zero, mtPl, marksPl, marksPl, List.range_succ, List.map_append]
  simp

set_option maxRecDepth 100000 in
set_option maxHeartbeats 4000000 in
theorem markPl_any (v : Value) (ys : List (Nat → Int)) (base : Nat) (w : World) (k : Int) (h : OwnPl w base v ys) (hn : ys.length ≤ 2097152) (hk : 0 ≤ k) (hk' : k ≤ 1000000000) :
    Calls Try.prog 34 #[v, .int .i64 k] w fun e w' => e = .returned (.int .i64 (k + 5 * (ys.length : Int))) ∧ OwnPl w' base v (marksPl k ys.length) ∧ w.grownBy w' v.ownBlock := by
  have hrow := h.row
  obtain ⟨n, hln⟩ : ∃ n, n = ys.length := ⟨_, rfl⟩
  have HL := Lib.hid hln
  unfold OwnPl
  rw [marksPl_length, ← hln]
  rw [← hln] at hrow hn
  clear h hln
  rcases hrow.2 with ⟨rfl, rfl⟩ | ⟨g, cap, cur, rfl, _, hg, _⟩
  · clear hrow HL
    go_enter Try.func34, Try.ntmps34
    go_wp2
    go_rounds 1
    go_ret
    exact ⟨by simp, by simpa [marksPl, cellsPl] using World.ownsRow_nil _ _ _ _, World.grownBy.refl _ _⟩
  · clear hg
    have HFL := Lib.hid fun j (hj : j ≤ n) => mtPl_length k ys j (by rw [← HL.out]; exact hj)
    have HST := Lib.hid fun j (hj : j < n) => mtPl_step k ys j (by rw [← HL.out]; exact hj)
    have HW : Hid (w.ownsRow base 31 5 (.slice (some ⟨g, 0, none⟩) n cap) n (cellsPl (mtPl k ys 0))) := by rw [mtPl_zero]; exact hrow
    have HE : Hid (mtPl k ys n = marksPl k n) := by rw [HL.out]; exact mtPl_all k ys
    clear hrow
    go_enter Try.func34, Try.ntmps34
    go_wp2
    go_loopw [1, 5] (fun kk i wr => ∃ (j : Nat), j ≤ n ∧ i = .int .i64 j ∧ kk = .int .i64 (k + 5 * (j : Int)) ∧ Hid (wr.ownsRow base 31 5 (.slice (some ⟨g, 0, none⟩) n cap) n (cellsPl (mtPl k ys j))) ∧ Hid (w.grownBy wr (some g))) (fun _ i _ => n - (intOf i).toNat)
    case atStart => exact ⟨0, Nat.zero_le _, rfl, by go_num, HW, World.grownBy.refl _ _⟩
    case round =>
      obtain ⟨j, hj, rfl, rfl, hO, hG⟩ := hrel
      by_cases hlt : j < n
      · have hfill : j < (mtPl k ys j).length := by rw [HFL.out j hj, ← HL.out]; exact hlt
        have hcy := cellsPl_get (mtPl k ys j) j hfill
        generalize atPl (mtPl k ys j) j 0 = y0 at *
        generalize atPl (mtPl k ys j) j 1 = y1 at *
        generalize atPl (mtPl k ys j) j 2 = y2 at *
        generalize atPl (mtPl k ys j) j 3 = y3 at *
        generalize atPl (mtPl k ys j) j 4 = y4 at *
        have c0 := (hO.out.cellAt (j * 5) (by omega)).trans hcy.1
        have c1 := (hO.out.cellAt (j * 5 + 1) (by omega)).trans hcy.2.1
        have c2 := (hO.out.cellAt (j * 5 + 2) (by omega)).trans hcy.2.2.1
        have c3 := (hO.out.cellAt (j * 5 + 3) (by omega)).trans hcy.2.2.2.1
        have c4 := (hO.out.cellAt (j * 5 + 4) (by omega)).trans hcy.2.2.2.2
        have f0 : ∀ o : Nat, wr.frozen? ⟨g, o, none⟩ = false := fun o => hO.out.frozenAt o
        have HLT := Lib.hid hlt
        have HFI := Lib.hid hfill
        clear hcy hfill
        have hjn : (j : Int) < (n : Int) := by omega
        have hjb : k + 5 * (j : Int) ≤ 1100000000 := by omega
        go_wp2
        refine wp_loop_rounds 6 ?_
        iterate 6 (rw [rounds_succ]; go_wp2)
        go_roundw
        case rel =>
          have q0 : k + 5 * (j : Int) = markPl k j 0 := by unfold markPl; omega
          have q1 : k + 5 * (j : Int) + 1 = markPl k j 1 := by unfold markPl; omega
          have q2 : k + 5 * (j : Int) + 1 + 1 = markPl k j 2 := by unfold markPl; omega
          have q3 : k + 5 * (j : Int) + 1 + 1 + 1 = markPl k j 3 := by unfold markPl; omega
          have q4 : k + 5 * (j : Int) + 1 + 1 + 1 + 1 = markPl k j 4 := by unfold markPl; omega
          have s1 := hO.out.stored (j * 5) (Value.int .i32 (markPl k j 0))
          have s2 := s1.1.stored (j * 5 + 1) (Value.int .i32 (markPl k j 1))
          have s3 := s2.1.stored (j * 5 + 2) (Value.int .i32 (markPl k j 2))
          have s4 := s3.1.stored (j * 5 + 3) (Value.int .i32 (markPl k j 3))
          have s5 := s4.1.stored (j * 5 + 4) (Value.int .i32 (markPl k j 4))
          have e := (cellsPl_set (mtPl k ys j) j (markPl k j) HFI.out).trans (congrArg cellsPl (HST.out j HLT.out))
          have sz := s5.1
          rw [e] at sz
          refine ⟨j + 1, by omega, by go_num, by go_num, Lib.hid ?_, Lib.hid ?_⟩
          · rw [q4, q3, q2, q1, q0]
            exact sz
          · rw [q4, q3, q2, q1, q0]
            exact grown_tr (grown_tr (grown_tr (grown_tr (grown_tr hG.out s1.2) s2.2) s3.2) s4.2) s5.2
        case measure => simp [intOf]; omega
      · have hkn : j = n := by omega
        subst hkn
        go_wp2
        go_ret
        refine ⟨rfl, ?_, hG.out⟩
        rw [← HE.out]
        exact hO.out
end Go.Proofs.Ytphinokacggnfaa
