/-
  No statement is proved here: lists of arrays of 5 integers that a call has made; no condition.
-/
import Derived.Test.YtphinokacggnfaaRec
import Derived.OwnWalk
import Derived.Deep.RegionHeld3
import Derived.Test.YtphinokacggnfaaPlaceL
namespace Go.Proofs.Ytphinokacggnfaa
open Go.ChangeShapes Go.WideShapes Go.ChangeAt Go.RowKit

def cellsPl (ys : List (Nat → Int)) : List Value := ys.flatMap fun f => [.int .i32 (f 0), .int .i32 (f 1), .int .i32 (f 2), .int .i32 (f 3), .int .i32 (f 4)]
def atPl (ys : List (Nat → Int)) (j : Nat) : Nat → Int := ys.getD j (fun _ => 0)
theorem cellsPl_cons (f : Nat → Int) (ys : List (Nat → Int)) : cellsPl (f :: ys) = .int .i32 (f 0) :: .int .i32 (f 1) :: .int .i32 (f 2) :: .int .i32 (f 3) :: .int .i32 (f 4) :: cellsPl ys := rfl
theorem cellsPl_length (ys : List (Nat → Int)) : (cellsPl ys).length = ys.length * 5 := by
  induction ys with
  | nil => rfl
  | cons y ys ih => rw [cellsPl_cons]; simp only [List.length_cons, ih]; omega
theorem cellsPl_get : ∀ (ys : List (Nat → Int)) (j : Nat), j < ys.length →
    (cellsPl ys)[j * 5]? = some (.int .i32 (atPl ys j 0)) ∧ (cellsPl ys)[j * 5 + 1]? = some (.int .i32 (atPl ys j 1)) ∧ (cellsPl ys)[j * 5 + 2]? = some (.int .i32 (atPl ys j 2)) ∧ (cellsPl ys)[j * 5 + 3]? = some (.int .i32 (atPl ys j 3)) ∧ (cellsPl ys)[j * 5 + 4]? = some (.int .i32 (atPl ys j 4))
  | [], j, h => by simp at h
  | y :: ys, 0, _ => by rw [cellsPl_cons]; exact ⟨rfl, rfl, rfl, rfl, rfl⟩
  | y :: ys, j + 1, h => by
    have ih := cellsPl_get ys j (by simpa using h)
    have e : atPl (y :: ys) (j + 1) = atPl ys j := rfl
    rw [cellsPl_cons, e, show (j + 1) * 5 = j * 5 + 1 + 1 + 1 + 1 + 1 by omega]
    exact ⟨by simpa using ih.1, by simpa using ih.2.1, by simpa using ih.2.2.1, by simpa using ih.2.2.2.1, by simpa using ih.2.2.2.2⟩
theorem cellsPl_app (xs ys : List (Nat → Int)) : cellsPl (xs ++ ys) = cellsPl xs ++ cellsPl ys := by simp [cellsPl]
def Pls (w : World) (v : Value) (ys : List (Nat → Int)) : Prop :=
  (∃ a cap, v = .slice a 0 cap ∧ ys = []) ∨
  ∃ b off cap, v = .slice (some ⟨b, off, none⟩) ys.length cap ∧ 0 < ys.length ∧ b < w.heap.size ∧ ∀ j, j < ys.length → w.cell? ⟨b, off + j * 5, none⟩ = some (.int .i32 (atPl ys j 0)) ∧ w.cell? ⟨b, off + j * 5 + 1, none⟩ = some (.int .i32 (atPl ys j 1)) ∧ w.cell? ⟨b, off + j * 5 + 2, none⟩ = some (.int .i32 (atPl ys j 2)) ∧ w.cell? ⟨b, off + j * 5 + 3, none⟩ = some (.int .i32 (atPl ys j 3)) ∧ w.cell? ⟨b, off + j * 5 + 4, none⟩ = some (.int .i32 (atPl ys j 4))
theorem Pls.below {w w' : World} {v : Value} {ys : List (Nat → Int)} (h : Pls w v ys) (hB : Below w.heap.size w w') : Pls w' v ys := by
  obtain h | ⟨b, off, cap, rfl, h0, hb, hc⟩ := h
  · exact .inl h
  · exact .inr ⟨b, off, cap, rfl, h0, Nat.lt_of_lt_of_le hb hB.size, fun j hj => ⟨(hB.cell (p := ⟨b, _, none⟩) hb).trans (hc j hj).1, (hB.cell (p := ⟨b, _, none⟩) hb).trans (hc j hj).2.1, (hB.cell (p := ⟨b, _, none⟩) hb).trans (hc j hj).2.2.1, (hB.cell (p := ⟨b, _, none⟩) hb).trans (hc j hj).2.2.2.1, (hB.cell (p := ⟨b, _, none⟩) hb).trans (hc j hj).2.2.2.2⟩⟩
theorem Pls.len {w : World} {v : Value} {ys : List (Nat → Int)} (h : Pls w v ys) : ∃ a cap, v = .slice a ys.length cap := by
  obtain ⟨a, cap, rfl, rfl⟩ | ⟨b, off, cap, rfl, _⟩ := h
  · exact ⟨_, _, rfl⟩
  · exact ⟨_, _, rfl⟩
theorem Pls.nil {w : World} {v : Value} (h : Pls w v []) : ∃ a cap, v = .slice a 0 cap := h.len
theorem Pls.pos {w : World} {v : Value} {ys : List (Nat → Int)} (h : Pls w v ys) (h0 : 0 < ys.length) : ∃ b off cap, v = .slice (some ⟨b, off, none⟩) ys.length cap ∧ b < w.heap.size ∧ ∀ j, j < ys.length → w.cell? ⟨b, off + j * 5, none⟩ = some (.int .i32 (atPl ys j 0)) ∧ w.cell? ⟨b, off + j * 5 + 1, none⟩ = some (.int .i32 (atPl ys j 1)) ∧ w.cell? ⟨b, off + j * 5 + 2, none⟩ = some (.int .i32 (atPl ys j 2)) ∧ w.cell? ⟨b, off + j * 5 + 3, none⟩ = some (.int .i32 (atPl ys j 3)) ∧ w.cell? ⟨b, off + j * 5 + 4, none⟩ = some (.int .i32 (atPl ys j 4)) := by
  obtain ⟨a, cap, rfl, rfl⟩ | ⟨b, off, cap, rfl, _, hb, hc⟩ := h
  · simp at h0
  · exact ⟨_, _, _, rfl, hb, hc⟩
def OwnPl (w : World) (base : Nat) (v : Value) (ys : List (Nat → Int)) : Prop := w.ownsRow base 31 5 v ys.length (cellsPl ys)
theorem OwnPl.row {w : World} {base : Nat} {v : Value} {ys : List (Nat → Int)} (h : OwnPl w base v ys) : w.ownsRow base 31 5 v ys.length (cellsPl ys) := h
theorem OwnPl.rel {w : World} {base : Nat} {v : Value} {ys : List (Nat → Int)} (h : OwnPl w base v ys) : Pls w v ys := by
  rcases h.2 with ⟨rfl, hn⟩ | ⟨g, cap, cur, hv, hb, hg, _⟩
  · exact .inl ⟨_, _, rfl, List.length_eq_zero_iff.1 hn⟩
  · by_cases h0 : ys = []
    · subst h0
      exact .inl ⟨_, _, hv, rfl⟩
    · have hr := h.row
      rw [hv] at hr
      refine .inr ⟨g, 0, cap, hv, List.length_pos_iff.2 h0, lt_of_block hg, fun j hj => ?_⟩
      have hc := cellsPl_get ys j hj
      simp only [Nat.zero_add]
      exact ⟨(hr.cellAt _ (by omega)).trans hc.1, (hr.cellAt _ (by omega)).trans hc.2.1, (hr.cellAt _ (by omega)).trans hc.2.2.1, (hr.cellAt _ (by omega)).trans hc.2.2.2.1, (hr.cellAt _ (by omega)).trans hc.2.2.2.2⟩
theorem OwnPl.below {w w' : World} {base : Nat} {v : Value} {ys : List (Nat → Int)} (h : OwnPl w base v ys) (hB : Below w.heap.size w w') : OwnPl w' base v ys := by
  refine ⟨h.1, ?_⟩
  rcases h.2 with h2 | ⟨g, cap, cur, hv, hg, hh, r⟩
  · exact .inl h2
  · exact .inr ⟨g, cap, cur, hv, hg, by rw [hB.block g (lt_of_block hh)]; exact hh, r⟩
theorem OwnPl.lt {w : World} {base : Nat} {v : Value} {ys : List (Nat → Int)} (h : OwnPl w base v ys) : ∀ k, v.ownBlock = some k → base ≤ k ∧ k < w.heap.size := World.ownsRow.lt h.row
theorem OwnPl.kept {w w' : World} {base : Nat} {v : Value} {ys : List (Nat → Int)} {row : Option Nat} (h : OwnPl w base v ys) (hg : w.grownBy w' row) (hne : v.ownBlock = none ∨ v.ownBlock ≠ row) : OwnPl w' base v ys := World.ownsRow.kept h hg hne
set_option maxRecDepth 100000 in
theorem infoPl : (Try.prog.info? 31).map (fun i => (i.zero, i.size, i.bytes)) = some (some (.agg #[.int .i32 0, .int .i32 0, .int .i32 0, .int .i32 0, .int .i32 0]), 5, 20) := by kernel_rfl
set_option maxRecDepth 100000 in
set_option maxHeartbeats 1000000 in
theorem eqPlacesS_self (a b : Value) (xs : List (Nat → Int)) (w : World) (ha : Pls w a xs) (hb : Pls w b xs) (hn : xs.length ≤ 2097152) :
    Calls Try.prog 33 #[a, b] w fun e w' => e = .returned (.bool true) ∧ Below w.heap.size w w' := by
  by_cases h0 : xs.length = 0
  · have hx : xs = [] := List.length_eq_zero_iff.1 h0
    subst hx
    obtain ⟨a1, c1, rfl⟩ := ha.nil
    obtain ⟨a2, c2, rfl⟩ := hb.nil
    clear ha hb h0 hn
    go_enter Try.func33, Try.ntmps33
    go_wp2
    go_rounds 1
    go_ret
    exact ⟨rfl, Below.refl _ _⟩
  · obtain ⟨b1, o1, c1, rfl, hl1, hc1⟩ := ha.pos (by omega)
    obtain ⟨b2, o2, c2, rfl, hl2, hc2⟩ := hb.pos (by omega)
    clear ha hb
    obtain ⟨n, hln⟩ : ∃ n, n = xs.length := ⟨_, rfl⟩
    rw [← hln] at hc1 hc2 hn h0 ⊢
    clear hln
    have H1 := Lib.hid hc1
    have H2 := Lib.hid hc2
    have hne : ((n : Int) != (n : Int)) = false := by simp
    clear hc1 hc2
    go_enter Try.func33, Try.ntmps33
    go_wp2
    go_loopw [5] (fun i wr => ∃ k : Nat, k ≤ n ∧ i = .int .i64 k ∧ Below w.heap.size w wr) (fun i _ => n - (intOf i).toNat)
    case atStart => exact ⟨0, Nat.zero_le _, rfl, Below.refl _ _⟩
    case round =>
      obtain ⟨k, hk, rfl, hB⟩ := hrel
      by_cases hlt : k < n
      · have p1 := H1.out k hlt
        have p2 := H2.out k hlt
        have HE := Lib.hid fun wx => eqPlaces_same (atPl xs k) wx
        unfold pval at HE
        generalize atPl xs k 0 = y0 at *
        generalize atPl xs k 1 = y1 at *
        generalize atPl xs k 2 = y2 at *
        generalize atPl xs k 3 = y3 at *
        generalize atPl xs k 4 = y4 at *
        have c10 : wr.cell? ⟨b1, o1 + k * 5, none⟩ = some (.int .i32 y0) := (hB.cell (p := ⟨b1, _, none⟩) hl1).trans p1.1
        have c11 : wr.cell? ⟨b1, o1 + k * 5 + 1, none⟩ = some (.int .i32 y1) := (hB.cell (p := ⟨b1, _, none⟩) hl1).trans p1.2.1
        have c12 : wr.cell? ⟨b1, o1 + k * 5 + 2, none⟩ = some (.int .i32 y2) := (hB.cell (p := ⟨b1, _, none⟩) hl1).trans p1.2.2.1
        have c13 : wr.cell? ⟨b1, o1 + k * 5 + 3, none⟩ = some (.int .i32 y3) := (hB.cell (p := ⟨b1, _, none⟩) hl1).trans p1.2.2.2.1
        have c14 : wr.cell? ⟨b1, o1 + k * 5 + 4, none⟩ = some (.int .i32 y4) := (hB.cell (p := ⟨b1, _, none⟩) hl1).trans p1.2.2.2.2
        have c20 : wr.cell? ⟨b2, o2 + k * 5, none⟩ = some (.int .i32 y0) := (hB.cell (p := ⟨b2, _, none⟩) hl2).trans p2.1
        have c21 : wr.cell? ⟨b2, o2 + k * 5 + 1, none⟩ = some (.int .i32 y1) := (hB.cell (p := ⟨b2, _, none⟩) hl2).trans p2.2.1
        have c22 : wr.cell? ⟨b2, o2 + k * 5 + 2, none⟩ = some (.int .i32 y2) := (hB.cell (p := ⟨b2, _, none⟩) hl2).trans p2.2.2.1
        have c23 : wr.cell? ⟨b2, o2 + k * 5 + 3, none⟩ = some (.int .i32 y3) := (hB.cell (p := ⟨b2, _, none⟩) hl2).trans p2.2.2.2.1
        have c24 : wr.cell? ⟨b2, o2 + k * 5 + 4, none⟩ = some (.int .i32 y4) := (hB.cell (p := ⟨b2, _, none⟩) hl2).trans p2.2.2.2.2
        have HB := Lib.hid hB
        clear p1 p2 hB
        go_wp2
        go_region_with (go_at_call 21; refine (HE.out _).mono ?_; rintro e w2 ⟨rfl, hB2⟩)
        all_goals
          go_wp2
          go_roundw
          case rel => exact ⟨k + 1, by omega, by go_num, HB.out.trans ((Below.drew (Below.refl _ _)).trans (hB2.mono HB.out.size))⟩
          case measure => simp [intOf]; omega
      · have hkn : k = n := by omega
        subst hkn
        have HB := Lib.hid hB
        clear hB
        go_wp2
        go_ret
        exact ⟨rfl, HB.out⟩
end Go.Proofs.Ytphinokacggnfaa
