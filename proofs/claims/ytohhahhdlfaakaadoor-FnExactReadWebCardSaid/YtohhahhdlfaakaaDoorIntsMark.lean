/-
  No statement is proved here: what the law's own marking, and its looking for the marks, do to slices of int64s; condition: at most 2097152 numbers.
-/
import Derived.Test.YtohhahhdlfaakaaDoorIntsEq
namespace Go.Proofs.YtohhahhdlfaakaaDoor
open Go.ChangeShapes Go.WideShapes Go.ChangeAt Go.RowKit

theorem grown_trans {a b c : World} {row : Option Nat} (h : a.grownBy b row) (k : b.grownBy c row) : a.grownBy c row :=
  ⟨k.os.trans h.os, k.tape.trans h.tape, k.output.trans h.output, Nat.le_trans h.size k.size, fun i hi hne => (k.block i (Nat.lt_of_lt_of_le hi h.size) hne).trans (h.block i hi hne)⟩

/-- The first j numbers marked. -/
def markedTo (k : Int) (zs : List Int) (j : Nat) : List Int := marks k j ++ zs.drop j
theorem markedTo_length (k : Int) (zs : List Int) (j : Nat) (hj : j ≤ zs.length) : (markedTo k zs j).length = zs.length := by simp [markedTo, marks_length]; omega
theorem markedTo_all (k : Int) (zs : List Int) : markedTo k zs zs.length = marks k zs.length := by simp [markedTo]
theorem markedTo_zero (k : Int) (zs : List Int) : markedTo k zs 0 = zs := by simp [markedTo, marks]
theorem markedTo_step (k : Int) (zs : List Int) (j : Nat) (hj : j < zs.length) : (markedTo k zs j).set j (k + j) = markedTo k zs (j + 1) := by
  have e : zs.drop j = zs.getD j 0 :: zs.drop (j + 1) := by
    rw [List.drop_eq_getElem_cons hj]
    simp [List.getD, List.getElem?_eq_getElem hj]
  rw [markedTo, e, List.set_append, if_neg (by simp [marks_length]), marks_length, Nat.sub_self, List.set_cons_zero, markedTo, marks, marks, List.range_succ, List.map_append]
  simp
set_option linter.unusedVariables false in
theorem markedTo_get (k : Int) (zs : List Int) (j : Nat) (hj : j < zs.length) : (markedTo k zs j).getD j 0 = zs.getD j 0 := by
  rw [markedTo, List.getD, List.getElem?_append_right (by simp [marks_length]), marks_length, Nat.sub_self]
  simp [List.getD]

set_option maxRecDepth 100000 in
set_option maxHeartbeats 1000000 in
theorem mark_any (v : Value) (zs : List Int) (base : Nat) (w : World) (k : Int) (h : Own w base v zs) (hn : zs.length ≤ 2097152) (hk : 0 ≤ k) (hk' : k ≤ 1000000000) :
    Calls Tryd.prog 11 #[v, .int .i64 k] w fun e w' => e = .returned (.int .i64 (k + zs.length)) ∧ Own w' base v (marks k zs.length) ∧ w.grownBy w' v.ownBlock := by
  rcases h.block with ⟨rfl, rfl⟩ | ⟨g, cap, rfl, hbg, hg, _, hc, hf⟩
  · go_enter Tryd.func11, Tryd.ntmps11
    go_wp2
    go_rounds 1
    go_ret
    exact ⟨by simp, World.ownsRow_nil _ _ _ _, World.grownBy.refl _ _⟩
  · clear hc hf
    obtain ⟨n, hln⟩ : ∃ n, n = zs.length := ⟨_, rfl⟩
    have HL := Lib.hid hln
    have hrow := h.row
    unfold Own
    rw [marks_length, ← hln]
    rw [← hln] at hn hrow
    clear hln h
    go_enter Tryd.func11, Tryd.ntmps11
    go_wp2
    have HFL := Lib.hid fun j (hj : j ≤ n) => markedTo_length k zs j (by rw [← HL.out]; exact hj)
    have HST := Lib.hid fun j (hj : j < n) => markedTo_step k zs j (by rw [← HL.out]; exact hj)
    have HW : Hid (w.ownsRow base 2 1 (.slice (some ⟨g, 0, none⟩) n cap) n ((markedTo k zs 0).map (Value.int .i64))) := by rw [markedTo_zero]; exact hrow
    clear hrow
    go_loopw [1, 5] (fun kk i wr => ∃ j : Nat, j ≤ n ∧ i = .int .i64 j ∧ kk = .int .i64 (k + j) ∧ Hid (wr.ownsRow base 2 1 (.slice (some ⟨g, 0, none⟩) n cap) n ((markedTo k zs j).map (Value.int .i64))) ∧ Hid (w.grownBy wr (some g))) (fun _ i _ => n - (intOf i).toNat)
    case atStart => exact ⟨0, Nat.zero_le _, rfl, by go_num, HW, World.grownBy.refl _ _⟩
    case round =>
      obtain ⟨j, hj, rfl, rfl, hO, hG⟩ := hrel
      have hcy : j < n → wr.cell? ⟨g, j, none⟩ = some (.int .i64 ((markedTo k zs j).getD j 0)) := fun h => (hO.out.cellAt j (by omega)).trans (cellOf (by rw [HFL.out j hj, ← HL.out]; exact h))
      have hfy : wr.frozen? ⟨g, j, none⟩ = false := hO.out.frozenAt j
      go_wp2
      · have hlt : j < n := by assumption
        go_roundw
        case rel =>
          have h := hO.out.stored j (Value.int .i64 (k + j))
          refine ⟨j + 1, by omega, by go_num, by go_num, ?_, Lib.hid (grown_trans hG.out h.2)⟩
          have h1 := h.1
          rw [← List.map_set, HST.out j hlt] at h1
          exact Lib.hid h1
        case measure => simp [intOf]; omega
      · have hkn : j = n := by omega
        subst hkn
        have e : markedTo k zs j = marks k j := by rw [HL.out]; exact markedTo_all k zs
        go_ret
        refine ⟨rfl, ?_, hG.out⟩
        have h := hO.out
        rw [e] at h
        exact h

set_option maxRecDepth 100000 in
set_option maxHeartbeats 1000000 in
theorem held_any (v : Value) (n : Nat) (w : World) (k : Int) (h : Ints w v (marks k n)) (hn : n ≤ 2097152) (hk : 0 ≤ k) (hk' : k ≤ 1000000000) :
    Calls Tryd.prog 12 #[v, .int .i64 k] w fun e w' => e = .returned (.int .i64 (k + n)) ∧ Below w.heap.size w w' := by
  by_cases h0 : n = 0
  · subst h0
    obtain ⟨a, cap, rfl⟩ := Ints.nil h
    go_enter Tryd.func12, Tryd.ntmps12
    go_wp2
    go_rounds 1
    go_ret
    exact ⟨by simp, bdN _ 0⟩
  · obtain ⟨b, off, cap, rfl, hc⟩ := h.pos (by rw [marks_length]; omega)
    rw [marks_length] at *
    have H1 : Hid (∀ j, j < n → w.cell? ⟨b, off + j, none⟩ = some (.int .i64 (k + j))) := fun j hj => by rw [hc j hj, marks_get k n j hj]
    clear hc h
    go_enter Tryd.func12, Tryd.ntmps12
    go_wp2
    go_loop [1, 5] (fun kk i => ∃ j : Nat, j ≤ n ∧ i = .int .i64 j ∧ kk = .int .i64 (k + j)) (fun _ i => n - (intOf i).toNat)
    case atStart => exact ⟨0, Nat.zero_le _, rfl, by go_num⟩
    case round =>
      obtain ⟨j, hj, rfl, rfl⟩ := hrel
      by_cases hlt : j < n
      · have c1 : w.cell? ⟨b, off + j, none⟩ = some (.int .i64 (k + j)) := H1.out j hlt
        have hne : (k + (j : Int) != k + (j : Int)) = false := by simp
        go_wp2
        go_round
        case rel => exact ⟨j + 1, by omega, by go_num, by go_num⟩
        case measure => simp [intOf]; omega
      · have hkn : j = n := by omega
        subst hkn
        go_wp2
        go_ret
        exact ⟨rfl, Below.refl _ _⟩
theorem eqSelf_any (a b : Value) (xs : List Int) (w : World) (ha : Ints w a xs) (hb : Ints w b xs) (hn : xs.length ≤ 2097152) :
    Calls Tryd.prog 8 #[a, b] w fun e w' => e = .returned (.bool true) ∧ Below w.heap.size w w' :=
  (eqInts_any a b xs xs w ha hb hn hn).mono fun e w' ⟨h, h'⟩ => ⟨by rw [h]; simp, h'⟩
end Go.Proofs.YtohhahhdlfaakaaDoor
