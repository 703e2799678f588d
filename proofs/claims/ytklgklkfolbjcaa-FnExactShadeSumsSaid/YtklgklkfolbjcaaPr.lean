/-
  No statement is proved here: lists of arrays of 2 integers that a call has made; no condition.
-/
import Derived.Test.YtklgklkfolbjcaaRec
import Derived.OwnWalk
import Derived.Deep.RegionHeld3
namespace Go.Proofs.Ytklgklkfolbjcaa
open Go.ChangeShapes Go.WideShapes Go.ChangeAt Go.RowKit

def cellsPr (ys : List (Nat → Int)) : List Value := ys.flatMap fun f => [.int .i64 (f 0), .int .i64 (f 1)]
def atPr (ys : List (Nat → Int)) (j : Nat) : Nat → Int := ys.getD j (fun _ => 0)
theorem cellsPr_cons (f : Nat → Int) (ys : List (Nat → Int)) : cellsPr (f :: ys) = .int .i64 (f 0) :: .int .i64 (f 1) :: cellsPr ys := rfl
theorem cellsPr_length (ys : List (Nat → Int)) : (cellsPr ys).length = ys.length * 2 := by
  induction ys with
  | nil => rfl
  | cons y ys ih => rw [cellsPr_cons]; simp only [List.length_cons, ih]; omega
theorem cellsPr_get : ∀ (ys : List (Nat → Int)) (j : Nat), j < ys.length →
    (cellsPr ys)[j * 2]? = some (.int .i64 (atPr ys j 0)) ∧ (cellsPr ys)[j * 2 + 1]? = some (.int .i64 (atPr ys j 1))
  | [], j, h => by simp at h
  | y :: ys, 0, _ => by rw [cellsPr_cons]; exact ⟨rfl, rfl⟩
  | y :: ys, j + 1, h => by
    have ih := cellsPr_get ys j (by simpa using h)
    have e : atPr (y :: ys) (j + 1) = atPr ys j := rfl
    rw [cellsPr_cons, e, show (j + 1) * 2 = j * 2 + 1 + 1 by omega]
    exact ⟨by simpa using ih.1, by simpa using ih.2⟩
theorem cellsPr_app (xs ys : List (Nat → Int)) : cellsPr (xs ++ ys) = cellsPr xs ++ cellsPr ys := by simp [cellsPr]
def Prs (w : World) (v : Value) (ys : List (Nat → Int)) : Prop :=
  (∃ a cap, v = .slice a 0 cap ∧ ys = []) ∨
  ∃ b off cap, v = .slice (some ⟨b, off, none⟩) ys.length cap ∧ 0 < ys.length ∧ b < w.heap.size ∧ ∀ j, j < ys.length → w.cell? ⟨b, off + j * 2, none⟩ = some (.int .i64 (atPr ys j 0)) ∧ w.cell? ⟨b, off + j * 2 + 1, none⟩ = some (.int .i64 (atPr ys j 1))
theorem Prs.below {w w' : World} {v : Value} {ys : List (Nat → Int)} (h : Prs w v ys) (hB : Below w.heap.size w w') : Prs w' v ys := by
  obtain h | ⟨b, off, cap, rfl, h0, hb, hc⟩ := h
  · exact .inl h
  · exact .inr ⟨b, off, cap, rfl, h0, Nat.lt_of_lt_of_le hb hB.size, fun j hj => ⟨(hB.cell (p := ⟨b, _, none⟩) hb).trans (hc j hj).1, (hB.cell (p := ⟨b, _, none⟩) hb).trans (hc j hj).2⟩⟩
theorem Prs.len {w : World} {v : Value} {ys : List (Nat → Int)} (h : Prs w v ys) : ∃ a cap, v = .slice a ys.length cap := by
  obtain ⟨a, cap, rfl, rfl⟩ | ⟨b, off, cap, rfl, _⟩ := h
  · exact ⟨_, _, rfl⟩
  · exact ⟨_, _, rfl⟩
theorem Prs.nil {w : World} {v : Value} (h : Prs w v []) : ∃ a cap, v = .slice a 0 cap := h.len
theorem Prs.pos {w : World} {v : Value} {ys : List (Nat → Int)} (h : Prs w v ys) (h0 : 0 < ys.length) : ∃ b off cap, v = .slice (some ⟨b, off, none⟩) ys.length cap ∧ b < w.heap.size ∧ ∀ j, j < ys.length → w.cell? ⟨b, off + j * 2, none⟩ = some (.int .i64 (atPr ys j 0)) ∧ w.cell? ⟨b, off + j * 2 + 1, none⟩ = some (.int .i64 (atPr ys j 1)) := by
  obtain ⟨a, cap, rfl, rfl⟩ | ⟨b, off, cap, rfl, _, hb, hc⟩ := h
  · simp at h0
  · exact ⟨_, _, _, rfl, hb, hc⟩
def OwnPr (w : World) (base : Nat) (v : Value) (ys : List (Nat → Int)) : Prop := w.ownsRow base 73 2 v ys.length (cellsPr ys)
theorem OwnPr.row {w : World} {base : Nat} {v : Value} {ys : List (Nat → Int)} (h : OwnPr w base v ys) : w.ownsRow base 73 2 v ys.length (cellsPr ys) := h
theorem OwnPr.rel {w : World} {base : Nat} {v : Value} {ys : List (Nat → Int)} (h : OwnPr w base v ys) : Prs w v ys := by
  rcases h.2 with ⟨rfl, hn⟩ | ⟨g, cap, cur, hv, hb, hg, _⟩
  · exact .inl ⟨_, _, rfl, List.length_eq_zero_iff.1 hn⟩
  · by_cases h0 : ys = []
    · subst h0
      exact .inl ⟨_, _, hv, rfl⟩
    · have hr := h.row
      rw [hv] at hr
      refine .inr ⟨g, 0, cap, hv, List.length_pos_iff.2 h0, lt_of_block hg, fun j hj => ?_⟩
      have hc := cellsPr_get ys j hj
      simp only [Nat.zero_add]
      exact ⟨(hr.cellAt _ (by omega)).trans hc.1, (hr.cellAt _ (by omega)).trans hc.2⟩
theorem OwnPr.below {w w' : World} {base : Nat} {v : Value} {ys : List (Nat → Int)} (h : OwnPr w base v ys) (hB : Below w.heap.size w w') : OwnPr w' base v ys := by
  refine ⟨h.1, ?_⟩
  rcases h.2 with h2 | ⟨g, cap, cur, hv, hg, hh, r⟩
  · exact .inl h2
  · exact .inr ⟨g, cap, cur, hv, hg, by rw [hB.block g (lt_of_block hh)]; exact hh, r⟩
theorem OwnPr.lt {w : World} {base : Nat} {v : Value} {ys : List (Nat → Int)} (h : OwnPr w base v ys) : ∀ k, v.ownBlock = some k → base ≤ k ∧ k < w.heap.size := World.ownsRow.lt h.row
theorem OwnPr.kept {w w' : World} {base : Nat} {v : Value} {ys : List (Nat → Int)} {row : Option Nat} (h : OwnPr w base v ys) (hg : w.grownBy w' row) (hne : v.ownBlock = none ∨ v.ownBlock ≠ row) : OwnPr w' base v ys := World.ownsRow.kept h hg hne
set_option maxRecDepth 100000 in
theorem infoPr : (Try.prog.info? 73).map (fun i => (i.zero, i.size, i.bytes)) = some (some (.agg #[.int .i64 0, .int .i64 0]), 2, 16) := by kernel_rfl
set_option maxHeartbeats 2000000 in
theorem eqInt64A2_same (f : Nat → Int) (w : World) : Calls Try.prog 51 #[.agg #[.int .i64 (f 0), .int .i64 (f 1)], .agg #[.int .i64 (f 0), .int .i64 (f 1)]] w fun e w' => e = .returned (.bool true) ∧ Below w.heap.size w w' := by
  have hne0 : (f 0 != f 0) = false := by simp
  have hne1 : (f 1 != f 1) = false := by simp
  generalize f 0 = x0 at *
  generalize f 1 = x1 at *
  go_enter Try.func51, Try.ntmps51
  go_wp2
  refine wp_loop_rounds 3 ?_
  iterate 2 (rw [rounds_succ]; go_wp2; go_quiet (fail); go_wp2)
  rw [rounds_succ]
  go_wp2
  go_ret
  refine ⟨rfl, ?_⟩
  repeat refine below_drewN ?_ _
  go_grown
set_option maxRecDepth 100000 in
set_option maxHeartbeats 1000000 in
theorem eqInt64A2S_self (a b : Value) (xs : List (Nat → Int)) (w : World) (ha : Prs w a xs) (hb : Prs w b xs) (hn : xs.length ≤ 2097152) :
    Calls Try.prog 33 #[a, b] w fun e w' => e = .returned (.bool true) ∧ Below w.heap.size w w' := by
  by_cases h0 : xs.length = 0
  · have hx : xs = [] := List.length_eq_zero_iff.1 h0
    subst hx
    obtain ⟨a1, c1, rfl⟩ := ha.nil
    obtain ⟨a2, c2, rfl⟩ := hb.nil
    clear ha hb h0 hn
    go_enter Try.func33, Try.ntmps33
    go_wp2
    go_rounds 1
    go_ret
    exact ⟨rfl, Below.refl _ _⟩
  · obtain ⟨b1, o1, c1, rfl, hl1, hc1⟩ := ha.pos (by omega)
    obtain ⟨b2, o2, c2, rfl, hl2, hc2⟩ := hb.pos (by omega)
    clear ha hb
    obtain ⟨n, hln⟩ : ∃ n, n = xs.length := ⟨_, rfl⟩
    rw [← hln] at hc1 hc2 hn h0 ⊢
    clear hln
    have H1 := Lib.hid hc1
    have H2 := Lib.hid hc2
    have hne : ((n : Int) != (n : Int)) = false := by simp
    clear hc1 hc2
    go_enter Try.func33, Try.ntmps33
    go_wp2
    go_loopw [5] (fun i wr => ∃ k : Nat, k ≤ n ∧ i = .int .i64 k ∧ Below w.heap.size w wr) (fun i _ => n - (intOf i).toNat)
    case atStart => exact ⟨0, Nat.zero_le _, rfl, Below.refl _ _⟩
    case round =>
      obtain ⟨k, hk, rfl, hB⟩ := hrel
      by_cases hlt : k < n
      · have p1 := H1.out k hlt
        have p2 := H2.out k hlt
        have HE := Lib.hid fun wx => eqInt64A2_same (atPr xs k) wx
        generalize atPr xs k 0 = y0 at *
        generalize atPr xs k 1 = y1 at *
        have c10 : wr.cell? ⟨b1, o1 + k * 2, none⟩ = some (.int .i64 y0) := (hB.cell (p := ⟨b1, _, none⟩) hl1).trans p1.1
        have c11 : wr.cell? ⟨b1, o1 + k * 2 + 1, none⟩ = some (.int .i64 y1) := (hB.cell (p := ⟨b1, _, none⟩) hl1).trans p1.2
        have c20 : wr.cell? ⟨b2, o2 + k * 2, none⟩ = some (.int .i64 y0) := (hB.cell (p := ⟨b2, _, none⟩) hl2).trans p2.1
        have c21 : wr.cell? ⟨b2, o2 + k * 2 + 1, none⟩ = some (.int .i64 y1) := (hB.cell (p := ⟨b2, _, none⟩) hl2).trans p2.2
        have HB := Lib.hid hB
        clear p1 p2 hB
        go_wp2
        go_region_with (go_at_call 51; refine (HE.out _).mono ?_; rintro e w2 ⟨rfl, hB2⟩)
        all_goals
          go_wp2
          go_roundw
          case rel => exact ⟨k + 1, by omega, by go_num, HB.out.trans ((Below.drew (Below.refl _ _)).trans (hB2.mono HB.out.size))⟩
          case measure => simp [intOf]; omega
      · have hkn : k = n := by omega
        subst hkn
        have HB := Lib.hid hB
        clear hB
        go_wp2
        go_ret
        exact ⟨rfl, HB.out⟩
end Go.Proofs.Ytklgklkfolbjcaa
