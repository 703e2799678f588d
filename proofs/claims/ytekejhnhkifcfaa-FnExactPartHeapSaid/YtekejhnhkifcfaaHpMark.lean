/-
  No statement is proved here: the marks that the law lays into a list of arrays of its own, and how it looks for them; condition: at most 2097152 arrays.
-/
import Derived.Test.YtekejhnhkifcfaaHp
namespace Go.Proofs.Ytekejhnhkifcfaa
open Go.ChangeShapes Go.WideShapes Go.ChangeAt Go.RowKit

def markHp (k : Int) (j : Nat) : Nat → Int := fun i => k + 8 * (j : Int) + (i : Int)
def marksHp (k : Int) (n : Nat) : List (Nat → Int) := (List.range n).map (markHp k)
theorem marksHp_length (k : Int) (n : Nat) : (marksHp k n).length = n := by simp [marksHp]
theorem marksHp_get (k : Int) (n j : Nat) (h : j < n) : atHp (marksHp k n) j = markHp k j := by simp [atHp, marksHp, List.getD, h]
theorem cellsHp_set : ∀ (ys : List (Nat → Int)) (k : Nat) (f : Nat → Int), k < ys.length → (((((((((cellsHp ys).set (k * 8) (.int .i32 (f 0))).set (k * 8 + 1) (.int .i32 (f 1))).set (k * 8 + 2) (.int .i32 (f 2))).set (k * 8 + 3) (.int .i32 (f 3))).set (k * 8 + 4) (.int .i32 (f 4))).set (k * 8 + 5) (.int .i32 (f 5))).set (k * 8 + 6) (.int .i32 (f 6))).set (k * 8 + 7) (.int .i32 (f 7))) = cellsHp (ys.set k f)
  | [], k, y, h => by simp at h
  | x :: ys, 0, y, _ => by simp [cellsHp_cons]
  | x :: ys, k + 1, y, h => by
    have ih := cellsHp_set ys k y (by simpa using h)
    rw [cellsHp_cons, List.set_cons_succ, cellsHp_cons, ← ih, show (k + 1) * 8 = k * 8 + 1 + 1 + 1 + 1 + 1 + 1 + 1 + 1 by omega]
    simp
def mtHp (k : Int) (ys : List (Nat → Int)) (j : Nat) : List (Nat → Int) := marksHp k j ++ ys.drop j
theorem mtHp_length (k : Int) (ys : List (Nat → Int)) (j : Nat) (hj : j ≤ ys.length) : (mtHp k ys j).length = ys.length := by simp [mtHp, marksHp_length]; omega
theorem mtHp_all (k : Int) (ys : List (Nat → Int)) : mtHp k ys ys.length = marksHp k ys.length := by simp [mtHp]
theorem mtHp_zero (k : Int) (ys : List (Nat → Int)) : mtHp k ys 0 = ys := by simp [mtHp, marksHp]
theorem mtHp_step (k : Int) (ys : List (Nat → Int)) (j : Nat) (hj : j < ys.length) : (mtHp k ys j).set j (markHp k j) = mtHp k ys (j + 1) := by
  have e : ys.drop j = atHp ys j :: ys.drop (j + 1) := by
    rw [List.drop_eq_getElem_cons hj]
    simp [atHp, List.getD, List.getElem?_eq_getElem hj]
  rw [mtHp, e, List.set_append, if_neg (by simp [marksHp_length]), marksHp_length, Nat.sub_self, List.set_cons_zero, mtHp, marksHp, marksHp, List.range_succ, List.map_append]
  simp

set_option maxRecDepth 100000 in
set_option maxHeartbeats 4000000 in
theorem markHp_any (v : Value) (ys : List (Nat → Int)) (base : Nat) (w : World) (k : Int) (h : OwnHp w base v ys) (hn : ys.length ≤ 2097152) (hk : 0 ≤ k) (hk' : k ≤ 1000000000) :
    Calls Try.prog 17 #[v, .int .i64 k] w fun e w' => e = .returned (.int .i64 (k + 8 * (ys.length : Int))) ∧ OwnHp w' base v (marksHp k ys.length) ∧ w.grownBy w' v.ownBlock := by
  have hrow := h.row
  obtain ⟨n, hln⟩ : ∃ n, n = ys.length := ⟨_, rfl⟩
  have HL := Lib.hid hln
  unfold OwnHp
  rw [marksHp_length, ← hln]
  rw [← hln] at hrow hn
  clear h hln
  rcases hrow.2 with ⟨rfl, rfl⟩ | ⟨g, cap, cur, rfl, _, hg, _⟩
  · clear hrow HL
    go_enter Try.func17, Try.ntmps17
    go_wp2
    go_rounds 1
    go_ret
    exact ⟨by simp, by simpa [marksHp, cellsHp] using World.ownsRow_nil _ _ _ _, World.grownBy.refl _ _⟩
  · clear hg
    have HFL := Lib.hid fun j (hj : j ≤ n) => mtHp_length k ys j (by rw [← HL.out]; exact hj)
    have HST := Lib.hid fun j (hj : j < n) => mtHp_step k ys j (by rw [← HL.out]; exact hj)
    have HW : Hid (w.ownsRow base 23 8 (.slice (some ⟨g, 0, none⟩) n cap) n (cellsHp (mtHp k ys 0))) := by rw [mtHp_zero]; exact hrow
    have HE : Hid (mtHp k ys n = marksHp k n) := by rw [HL.out]; exact mtHp_all k ys
    clear hrow
    go_enter Try.func17, Try.ntmps17
    go_wp2
    go_loopw [1, 5] (fun kk i wr => ∃ (j : Nat), j ≤ n ∧ i = .int .i64 j ∧ kk = .int .i64 (k + 8 * (j : Int)) ∧ Hid (wr.ownsRow base 23 8 (.slice (some ⟨g, 0, none⟩) n cap) n (cellsHp (mtHp k ys j))) ∧ Hid (w.grownBy wr (some g))) (fun _ i _ => n - (intOf i).toNat)
    case atStart => exact ⟨0, Nat.zero_le _, rfl, by go_num, HW, World.grownBy.refl _ _⟩
    case round =>
      obtain ⟨j, hj, rfl, rfl, hO, hG⟩ := hrel
      by_cases hlt : j < n
      · have hfill : j < (mtHp k ys j).length := by rw [HFL.out j hj, ← HL.out]; exact hlt
        have hcy := cellsHp_get (mtHp k ys j) j hfill
        generalize atHp (mtHp k ys j) j 0 = y0 at *
        generalize atHp (mtHp k ys j) j 1 = y1 at *
        generalize atHp (mtHp k ys j) j 2 = y2 at *
        generalize atHp (mtHp k ys j) j 3 = y3 at *
        generalize atHp (mtHp k ys j) j 4 = y4 at *
        generalize atHp (mtHp k ys j) j 5 = y5 at *
        generalize atHp (mtHp k ys j) j 6 = y6 at *
        generalize atHp (mtHp k ys j) j 7 = y7 at *
        have c0 := (hO.out.cellAt (j * 8) (by omega)).trans hcy.1
        have c1 := (hO.out.cellAt (j * 8 + 1) (by omega)).trans hcy.2.1
        have c2 := (hO.out.cellAt (j * 8 + 2) (by omega)).trans hcy.2.2.1
        have c3 := (hO.out.cellAt (j * 8 + 3) (by omega)).trans hcy.2.2.2.1
        have c4 := (hO.out.cellAt (j * 8 + 4) (by omega)).trans hcy.2.2.2.2.1
        have c5 := (hO.out.cellAt (j * 8 + 5) (by omega)).trans hcy.2.2.2.2.2.1
        have c6 := (hO.out.cellAt (j * 8 + 6) (by omega)).trans hcy.2.2.2.2.2.2.1
        have c7 := (hO.out.cellAt (j * 8 + 7) (by omega)).trans hcy.2.2.2.2.2.2.2
        have f0 : ∀ o : Nat, wr.frozen? ⟨g, o, none⟩ = false := fun o => hO.out.frozenAt o
        have HLT := Lib.hid hlt
        have HFI := Lib.hid hfill
        clear hcy hfill
        have hjn : (j : Int) < (n : Int) := by omega
        have hjb : k + 8 * (j : Int) ≤ 1100000000 := by omega
        go_wp2
        refine wp_loop_rounds 9 ?_
        iterate 9 (rw [rounds_succ]; go_wp2)
        go_roundw
        case rel =>
          have q0 : k + 8 * (j : Int) = markHp k j 0 := by unfold markHp; omega
          have q1 : k + 8 * (j : Int) + 1 = markHp k j 1 := by unfold markHp; omega
          have q2 : k + 8 * (j : Int) + 1 + 1 = markHp k j 2 := by unfold markHp; omega
          have q3 : k + 8 * (j : Int) + 1 + 1 + 1 = markHp k j 3 := by unfold markHp; omega
          have q4 : k + 8 * (j : Int) + 1 + 1 + 1 + 1 = markHp k j 4 := by unfold markHp; omega
          have q5 : k + 8 * (j : Int) + 1 + 1 + 1 + 1 + 1 = markHp k j 5 := by unfold markHp; omega
          have q6 : k + 8 * (j : Int) + 1 + 1 + 1 + 1 + 1 + 1 = markHp k j 6 := by unfold markHp; omega
          have q7 : k + 8 * (j : Int) + 1 + 1 + 1 + 1 + 1 + 1 + 1 = markHp k j 7 := by unfold markHp; omega
          have s1 := hO.out.stored (j * 8) (Value.int .i32 (markHp k j 0))
          have s2 := s1.1.stored (j * 8 + 1) (Value.int .i32 (markHp k j 1))
          have s3 := s2.1.stored (j * 8 + 2) (Value.int .i32 (markHp k j 2))
          have s4 := s3.1.stored (j * 8 + 3) (Value.int .i32 (markHp k j 3))
          have s5 := s4.1.stored (j * 8 + 4) (Value.int .i32 (markHp k j 4))
          have s6 := s5.1.stored (j * 8 + 5) (Value.int .i32 (markHp k j 5))
          have s7 := s6.1.stored (j * 8 + 6) (Value.int .i32 (markHp k j 6))
          have s8 := s7.1.stored (j * 8 + 7) (Value.int .i32 (markHp k j 7))
          have e := (cellsHp_set (mtHp k ys j) j (markHp k j) HFI.out).trans (congrArg cellsHp (HST.out j HLT.out))
          have sz := s8.1
          rw [e] at sz
          refine ⟨j + 1, by omega, by go_num, by go_num, Lib.hid ?_, Lib.hid ?_⟩
          · rw [q7, q6, q5, q4, q3, q2, q1, q0]
            exact sz
          · rw [q7, q6, q5, q4, q3, q2, q1, q0]
            exact grown_tr (grown_tr (grown_tr (grown_tr (grown_tr (grown_tr (grown_tr (grown_tr hG.out s1.2) s2.2) s3.2) s4.2) s5.2) s6.2) s7.2) s8.2
        case measure => simp [intOf]; omega
      · have hkn : j = n := by omega
        subst hkn
        go_wp2
        go_ret
        refine ⟨rfl, ?_, hG.out⟩
        rw [← HE.out]
        exact hO.out
end Go.Proofs.Ytekejhnhkifcfaa
