/-
  No statement is proved here: lists of arrays of 8 integers that a call has made; no condition.
-/
import Derived.Test.YtekejhnhkifcfaaRec
import Derived.OwnWalk
import Derived.Deep.RegionHeld3
namespace Go.Proofs.Ytekejhnhkifcfaa
open Go.ChangeShapes Go.WideShapes Go.ChangeAt Go.RowKit

def cellsHp (ys : List (Nat → Int)) : List Value := ys.flatMap fun f => [.int .i32 (f 0), .int .i32 (f 1), .int .i32 (f 2), .int .i32 (f 3), .int .i32 (f 4), .int .i32 (f 5), .int .i32 (f 6), .int .i32 (f 7)]
def atHp (ys : List (Nat → Int)) (j : Nat) : Nat → Int := ys.getD j (fun _ => 0)
theorem cellsHp_cons (f : Nat → Int) (ys : List (Nat → Int)) : cellsHp (f :: ys) = .int .i32 (f 0) :: .int .i32 (f 1) :: .int .i32 (f 2) :: .int .i32 (f 3) :: .int .i32 (f 4) :: .int .i32 (f 5) :: .int .i32 (f 6) :: .int .i32 (f 7) :: cellsHp ys := rfl
theorem cellsHp_length (ys : List (Nat → Int)) : (cellsHp ys).length = ys.length * 8 := by
  induction ys with
  | nil => rfl
  | cons y ys ih => rw [cellsHp_cons]; simp only [List.length_cons, ih]; omega
theorem cellsHp_get : ∀ (ys : List (Nat → Int)) (j : Nat), j < ys.length →
    (cellsHp ys)[j * 8]? = some (.int .i32 (atHp ys j 0)) ∧ (cellsHp ys)[j * 8 + 1]? = some (.int .i32 (atHp ys j 1)) ∧ (cellsHp ys)[j * 8 + 2]? = some (.int .i32 (atHp ys j 2)) ∧ (cellsHp ys)[j * 8 + 3]? = some (.int .i32 (atHp ys j 3)) ∧ (cellsHp ys)[j * 8 + 4]? = some (.int .i32 (atHp ys j 4)) ∧ (cellsHp ys)[j * 8 + 5]? = some (.int .i32 (atHp ys j 5)) ∧ (cellsHp ys)[j * 8 + 6]? = some (.int .i32 (atHp ys j 6)) ∧ (cellsHp ys)[j * 8 + 7]? = some (.int .i32 (atHp ys j 7))
  | [], j, h => by simp at h
  | y :: ys, 0, _ => by rw [cellsHp_cons]; exact ⟨rfl, rfl, rfl, rfl, rfl, rfl, rfl, rfl⟩
  | y :: ys, j + 1, h => by
    have ih := cellsHp_get ys j (by simpa using h)
    have e : atHp (y :: ys) (j + 1) = atHp ys j := rfl
    rw [cellsHp_cons, e, show (j + 1) * 8 = j * 8 + 1 + 1 + 1 + 1 + 1 + 1 + 1 + 1 by omega]
    exact ⟨by simpa using ih.1, by simpa using ih.2.1, by simpa using ih.2.2.1, by simpa using ih.2.2.2.1, by simpa using ih.2.2.2.2.1, by simpa using ih.2.2.2.2.2.1, by simpa using ih.2.2.2.2.2.2.1, by simpa using ih.2.2.2.2.2.2.2⟩
theorem cellsHp_app (xs ys : List (Nat → Int)) : cellsHp (xs ++ ys) = cellsHp xs ++ cellsHp ys := by simp [cellsHp]
def Hps (w : World) (v : Value) (ys : List (Nat → Int)) : Prop :=
  (∃ a cap, v = .slice a 0 cap ∧ ys = []) ∨
  ∃ b off cap, v = .slice (some ⟨b, off, none⟩) ys.length cap ∧ 0 < ys.length ∧ b < w.heap.size ∧ ∀ j, j < ys.length → w.cell? ⟨b, off + j * 8, none⟩ = some (.int .i32 (atHp ys j 0)) ∧ w.cell? ⟨b, off + j * 8 + 1, none⟩ = some (.int .i32 (atHp ys j 1)) ∧ w.cell? ⟨b, off + j * 8 + 2, none⟩ = some (.int .i32 (atHp ys j 2)) ∧ w.cell? ⟨b, off + j * 8 + 3, none⟩ = some (.int .i32 (atHp ys j 3)) ∧ w.cell? ⟨b, off + j * 8 + 4, none⟩ = some (.int .i32 (atHp ys j 4)) ∧ w.cell? ⟨b, off + j * 8 + 5, none⟩ = some (.int .i32 (atHp ys j 5)) ∧ w.cell? ⟨b, off + j * 8 + 6, none⟩ = some (.int .i32 (atHp ys j 6)) ∧ w.cell? ⟨b, off + j * 8 + 7, none⟩ = some (.int .i32 (atHp ys j 7))
theorem Hps.below {w w' : World} {v : Value} {ys : List (Nat → Int)} (h : Hps w v ys) (hB : Below w.heap.size w w') : Hps w' v ys := by
  obtain h | ⟨b, off, cap, rfl, h0, hb, hc⟩ := h
  · exact .inl h
  · exact .inr ⟨b, off, cap, rfl, h0, Nat.lt_of_lt_of_le hb hB.size, fun j hj => ⟨(hB.cell (p := ⟨b, _, none⟩) hb).trans (hc j hj).1, (hB.cell (p := ⟨b, _, none⟩) hb).trans (hc j hj).2.1, (hB.cell (p := ⟨b, _, none⟩) hb).trans (hc j hj).2.2.1, (hB.cell (p := ⟨b, _, none⟩) hb).trans (hc j hj).2.2.2.1, (hB.cell (p := ⟨b, _, none⟩) hb).trans (hc j hj).2.2.2.2.1, (hB.cell (p := ⟨b, _, none⟩) hb).trans (hc j hj).2.2.2.2.2.1, (hB.cell (p := ⟨b, _, none⟩) hb).trans (hc j hj).2.2.2.2.2.2.1, (hB.cell (p := ⟨b, _, none⟩) hb).trans (hc j hj).2.2.2.2.2.2.2⟩⟩
theorem Hps.len {w : World} {v : Value} {ys : List (Nat → Int)} (h : Hps w v ys) : ∃ a cap, v = .slice a ys.length cap := by
  obtain ⟨a, cap, rfl, rfl⟩ | ⟨b, off, cap, rfl, _⟩ := h
  · exact ⟨_, _, rfl⟩
  · exact ⟨_, _, rfl⟩
theorem Hps.nil {w : World} {v : Value} (h : Hps w v []) : ∃ a cap, v = .slice a 0 cap := h.len
theorem Hps.pos {w : World} {v : Value} {ys : List (Nat → Int)} (h : Hps w v ys) (h0 : 0 < ys.length) : ∃ b off cap, v = .slice (some ⟨b, off, none⟩) ys.length cap ∧ b < w.heap.size ∧ ∀ j, j < ys.length → w.cell? ⟨b, off + j * 8, none⟩ = some (.int .i32 (atHp ys j 0)) ∧ w.cell? ⟨b, off + j * 8 + 1, none⟩ = some (.int .i32 (atHp ys j 1)) ∧ w.cell? ⟨b, off + j * 8 + 2, none⟩ = some (.int .i32 (atHp ys j 2)) ∧ w.cell? ⟨b, off + j * 8 + 3, none⟩ = some (.int .i32 (atHp ys j 3)) ∧ w.cell? ⟨b, off + j * 8 + 4, none⟩ = some (.int .i32 (atHp ys j 4)) ∧ w.cell? ⟨b, off + j * 8 + 5, none⟩ = some (.int .i32 (atHp ys j 5)) ∧ w.cell? ⟨b, off + j * 8 + 6, none⟩ = some (.int .i32 (atHp ys j 6)) ∧ w.cell? ⟨b, off + j * 8 + 7, none⟩ = some (.int .i32 (atHp ys j 7)) := by
  obtain ⟨a, cap, rfl, rfl⟩ | ⟨b, off, cap, rfl, _, hb, hc⟩ := h
  · simp at h0
  · exact ⟨_, _, _, rfl, hb, hc⟩
def OwnHp (w : World) (base : Nat) (v : Value) (ys : List (Nat → Int)) : Prop := w.ownsRow base 23 8 v ys.length (cellsHp ys)
theorem OwnHp.row {w : World} {base : Nat} {v : Value} {ys : List (Nat → Int)} (h : OwnHp w base v ys) : w.ownsRow base 23 8 v ys.length (cellsHp ys) := h
theorem OwnHp.rel {w : World} {base : Nat} {v : Value} {ys : List (Nat → Int)} (h : OwnHp w base v ys) : Hps w v ys := by
  rcases h.2 with ⟨rfl, hn⟩ | ⟨g, cap, cur, hv, hb, hg, _⟩
  · exact .inl ⟨_, _, rfl, List.length_eq_zero_iff.1 hn⟩
  · by_cases h0 : ys = []
    · subst h0
      exact .inl ⟨_, _, hv, rfl⟩
    · have hr := h.row
      rw [hv] at hr
      refine .inr ⟨g, 0, cap, hv, List.length_pos_iff.2 h0, lt_of_block hg, fun j hj => ?_⟩
      have hc := cellsHp_get ys j hj
      simp only [Nat.zero_add]
      exact ⟨(hr.cellAt _ (by omega)).trans hc.1, (hr.cellAt _ (by omega)).trans hc.2.1, (hr.cellAt _ (by omega)).trans hc.2.2.1, (hr.cellAt _ (by omega)).trans hc.2.2.2.1, (hr.cellAt _ (by omega)).trans hc.2.2.2.2.1, (hr.cellAt _ (by omega)).trans hc.2.2.2.2.2.1, (hr.cellAt _ (by omega)).trans hc.2.2.2.2.2.2.1, (hr.cellAt _ (by omega)).trans hc.2.2.2.2.2.2.2⟩
theorem OwnHp.below {w w' : World} {base : Nat} {v : Value} {ys : List (Nat → Int)} (h : OwnHp w base v ys) (hB : Below w.heap.size w w') : OwnHp w' base v ys := by
  refine ⟨h.1, ?_⟩
  rcases h.2 with h2 | ⟨g, cap, cur, hv, hg, hh, r⟩
  · exact .inl h2
  · exact .inr ⟨g, cap, cur, hv, hg, by rw [hB.block g (lt_of_block hh)]; exact hh, r⟩
theorem OwnHp.lt {w : World} {base : Nat} {v : Value} {ys : List (Nat → Int)} (h : OwnHp w base v ys) : ∀ k, v.ownBlock = some k → base ≤ k ∧ k < w.heap.size := World.ownsRow.lt h.row
theorem OwnHp.kept {w w' : World} {base : Nat} {v : Value} {ys : List (Nat → Int)} {row : Option Nat} (h : OwnHp w base v ys) (hg : w.grownBy w' row) (hne : v.ownBlock = none ∨ v.ownBlock ≠ row) : OwnHp w' base v ys := World.ownsRow.kept h hg hne
set_option maxRecDepth 100000 in
theorem infoHp : (Try.prog.info? 23).map (fun i => (i.zero, i.size, i.bytes)) = some (some (.agg #[.int .i32 0, .int .i32 0, .int .i32 0, .int .i32 0, .int .i32 0, .int .i32 0, .int .i32 0, .int .i32 0]), 8, 32) := by kernel_rfl
set_option maxHeartbeats 2000000 in
theorem eqHeap_same (f : Nat → Int) (w : World) : Calls Try.prog 13 #[.agg #[.int .i32 (f 0), .int .i32 (f 1), .int .i32 (f 2), .int .i32 (f 3), .int .i32 (f 4), .int .i32 (f 5), .int .i32 (f 6), .int .i32 (f 7)], .agg #[.int .i32 (f 0), .int .i32 (f 1), .int .i32 (f 2), .int .i32 (f 3), .int .i32 (f 4), .int .i32 (f 5), .int .i32 (f 6), .int .i32 (f 7)]] w fun e w' => e = .returned (.bool true) ∧ Below w.heap.size w w' := by
  have hne0 : (f 0 != f 0) = false := by simp
  have hne1 : (f 1 != f 1) = false := by simp
  have hne2 : (f 2 != f 2) = false := by simp
  have hne3 : (f 3 != f 3) = false := by simp
  have hne4 : (f 4 != f 4) = false := by simp
  have hne5 : (f 5 != f 5) = false := by simp
  have hne6 : (f 6 != f 6) = false := by simp
  have hne7 : (f 7 != f 7) = false := by simp
  generalize f 0 = x0 at *
  generalize f 1 = x1 at *
  generalize f 2 = x2 at *
  generalize f 3 = x3 at *
  generalize f 4 = x4 at *
  generalize f 5 = x5 at *
  generalize f 6 = x6 at *
  generalize f 7 = x7 at *
  go_enter Try.func13, Try.ntmps13
  go_wp2
  refine wp_loop_rounds 9 ?_
  iterate 8 (rw [rounds_succ]; go_wp2; go_quiet (fail); go_wp2)
  rw [rounds_succ]
  go_wp2
  go_ret
  refine ⟨rfl, ?_⟩
  repeat refine below_drewN ?_ _
  go_grown
set_option maxRecDepth 100000 in
set_option maxHeartbeats 1000000 in
theorem eqHeapS_self (a b : Value) (xs : List (Nat → Int)) (w : World) (ha : Hps w a xs) (hb : Hps w b xs) (hn : xs.length ≤ 2097152) :
    Calls Try.prog 16 #[a, b] w fun e w' => e = .returned (.bool true) ∧ Below w.heap.size w w' := by
  by_cases h0 : xs.length = 0
  · have hx : xs = [] := List.length_eq_zero_iff.1 h0
    subst hx
    obtain ⟨a1, c1, rfl⟩ := ha.nil
    obtain ⟨a2, c2, rfl⟩ := hb.nil
    clear ha hb h0 hn
    go_enter Try.func16, Try.ntmps16
    go_wp2
    go_rounds 1
    go_ret
    exact ⟨rfl, Below.refl _ _⟩
  · obtain ⟨b1, o1, c1, rfl, hl1, hc1⟩ := ha.pos (by omega)
    obtain ⟨b2, o2, c2, rfl, hl2, hc2⟩ := hb.pos (by omega)
    clear ha hb
    obtain ⟨n, hln⟩ : ∃ n, n = xs.length := ⟨_, rfl⟩
    rw [← hln] at hc1 hc2 hn h0 ⊢
    clear hln
    have H1 := Lib.hid hc1
    have H2 := Lib.hid hc2
    have hne : ((n : Int) != (n : Int)) = false := by simp
    clear hc1 hc2
    go_enter Try.func16, Try.ntmps16
    go_wp2
    go_loopw [5] (fun i wr => ∃ k : Nat, k ≤ n ∧ i = .int .i64 k ∧ Below w.heap.size w wr) (fun i _ => n - (intOf i).toNat)
    case atStart => exact ⟨0, Nat.zero_le _, rfl, Below.refl _ _⟩
    case round =>
      obtain ⟨k, hk, rfl, hB⟩ := hrel
      by_cases hlt : k < n
      · have p1 := H1.out k hlt
        have p2 := H2.out k hlt
        have HE := Lib.hid fun wx => eqHeap_same (atHp xs k) wx
        generalize atHp xs k 0 = y0 at *
        generalize atHp xs k 1 = y1 at *
        generalize atHp xs k 2 = y2 at *
        generalize atHp xs k 3 = y3 at *
        generalize atHp xs k 4 = y4 at *
        generalize atHp xs k 5 = y5 at *
        generalize atHp xs k 6 = y6 at *
        generalize atHp xs k 7 = y7 at *
        have c10 : wr.cell? ⟨b1, o1 + k * 8, none⟩ = some (.int .i32 y0) := (hB.cell (p := ⟨b1, _, none⟩) hl1).trans p1.1
        have c11 : wr.cell? ⟨b1, o1 + k * 8 + 1, none⟩ = some (.int .i32 y1) := (hB.cell (p := ⟨b1, _, none⟩) hl1).trans p1.2.1
        have c12 : wr.cell? ⟨b1, o1 + k * 8 + 2, none⟩ = some (.int .i32 y2) := (hB.cell (p := ⟨b1, _, none⟩) hl1).trans p1.2.2.1
        have c13 : wr.cell? ⟨b1, o1 + k * 8 + 3, none⟩ = some (.int .i32 y3) := (hB.cell (p := ⟨b1, _, none⟩) hl1).trans p1.2.2.2.1
        have c14 : wr.cell? ⟨b1, o1 + k * 8 + 4, none⟩ = some (.int .i32 y4) := (hB.cell (p := ⟨b1, _, none⟩) hl1).trans p1.2.2.2.2.1
        have c15 : wr.cell? ⟨b1, o1 + k * 8 + 5, none⟩ = some (.int .i32 y5) := (hB.cell (p := ⟨b1, _, none⟩) hl1).trans p1.2.2.2.2.2.1
        have c16 : wr.cell? ⟨b1, o1 + k * 8 + 6, none⟩ = some (.int .i32 y6) := (hB.cell (p := ⟨b1, _, none⟩) hl1).trans p1.2.2.2.2.2.2.1
        have c17 : wr.cell? ⟨b1, o1 + k * 8 + 7, none⟩ = some (.int .i32 y7) := (hB.cell (p := ⟨b1, _, none⟩) hl1).trans p1.2.2.2.2.2.2.2
        have c20 : wr.cell? ⟨b2, o2 + k * 8, none⟩ = some (.int .i32 y0) := (hB.cell (p := ⟨b2, _, none⟩) hl2).trans p2.1
        have c21 : wr.cell? ⟨b2, o2 + k * 8 + 1, none⟩ = some (.int .i32 y1) := (hB.cell (p := ⟨b2, _, none⟩) hl2).trans p2.2.1
        have c22 : wr.cell? ⟨b2, o2 + k * 8 + 2, none⟩ = some (.int .i32 y2) := (hB.cell (p := ⟨b2, _, none⟩) hl2).trans p2.2.2.1
        have c23 : wr.cell? ⟨b2, o2 + k * 8 + 3, none⟩ = some (.int .i32 y3) := (hB.cell (p := ⟨b2, _, none⟩) hl2).trans p2.2.2.2.1
        have c24 : wr.cell? ⟨b2, o2 + k * 8 + 4, none⟩ = some (.int .i32 y4) := (hB.cell (p := ⟨b2, _, none⟩) hl2).trans p2.2.2.2.2.1
        have c25 : wr.cell? ⟨b2, o2 + k * 8 + 5, none⟩ = some (.int .i32 y5) := (hB.cell (p := ⟨b2, _, none⟩) hl2).trans p2.2.2.2.2.2.1
        have c26 : wr.cell? ⟨b2, o2 + k * 8 + 6, none⟩ = some (.int .i32 y6) := (hB.cell (p := ⟨b2, _, none⟩) hl2).trans p2.2.2.2.2.2.2.1
        have c27 : wr.cell? ⟨b2, o2 + k * 8 + 7, none⟩ = some (.int .i32 y7) := (hB.cell (p := ⟨b2, _, none⟩) hl2).trans p2.2.2.2.2.2.2.2
        have HB := Lib.hid hB
        clear p1 p2 hB
        go_wp2
        go_region_with (go_at_call 13; refine (HE.out _).mono ?_; rintro e w2 ⟨rfl, hB2⟩)
        all_goals
          go_wp2
          go_roundw
          case rel => exact ⟨k + 1, by omega, by go_num, HB.out.trans ((Below.drew (Below.refl _ _)).trans (hB2.mono HB.out.size))⟩
          case measure => simp [intOf]; omega
      · have hkn : k = n := by omega
        subst hkn
        have HB := Lib.hid hB
        clear hB
        go_wp2
        go_ret
        exact ⟨rfl, HB.out⟩
end Go.Proofs.Ytekejhnhkifcfaa
