/-
  No statement is proved here: how a law copies a list of fractions, and compares two; condition: at most 2097152 of them.
-/
import Derived.Test.YtekejhnhkifcfaaFc
import Derived.OwnWalk
import Derived.Deep.RegionHeld3
namespace Go.Proofs.Ytekejhnhkifcfaa
open Go.ChangeShapes Go.WideShapes Go.ChangeAt Go.RowKit

theorem eqFraction_same (a b : Int) (w : World) :
    Calls Try.prog 23 #[.agg #[.int .i64 a, .int .i64 b], .agg #[.int .i64 a, .int .i64 b]] w fun e w' => e = .returned (.bool true) ∧ Below w.heap.size w w' := by
  have ha : (a != a) = false := by simp
  have hb : (b != b) = false := by simp
  go_enter Try.func23, Try.ntmps23
  go_wp2
  go_ret
  exact ⟨rfl, by go_grown⟩

/-- The first k, and zeros behind them. -/
def fillFc (ys : List Fc) (k : Nat) : List Fc := ys.take k ++ List.replicate (ys.length - k) (0, 0)
theorem fillFc_length (ys : List Fc) (k : Nat) (hk : k ≤ ys.length) : (fillFc ys k).length = ys.length := by simp [fillFc]; omega
theorem fillFc_all (ys : List Fc) : fillFc ys ys.length = ys := by simp [fillFc]
theorem fillFc_zero (ys : List Fc) : fillFc ys 0 = List.replicate ys.length (0, 0) := by simp [fillFc]
theorem takeFc {ys : List Fc} {k : Nat} (hk : k < ys.length) : ys.take (k + 1) = ys.take k ++ [atFc ys k] := by
  rw [List.take_add_one, List.getElem?_eq_getElem hk, atFc, List.getD, List.getElem?_eq_getElem hk]
  rfl
theorem fillFc_step (ys : List Fc) (k : Nat) (hk : k < ys.length) : (fillFc ys k).set k (atFc ys k) = fillFc ys (k + 1) := by
  have e1 : (ys.take k).length = k := by rw [List.length_take]; omega
  have e2 : ys.length - k = (ys.length - (k + 1)) + 1 := by omega
  rw [fillFc, fillFc, List.set_append, if_neg (by omega), e1, Nat.sub_self, e2, List.replicate_succ, List.set_cons_zero, takeFc hk, List.append_assoc]
  rfl
theorem cellsFc_set : ∀ (ys : List Fc) (k : Nat) (y : Fc), k < ys.length →
    (((cellsFc ys).set (k * 2) (.int .i64 y.1)).set (k * 2 + 1) (.int .i64 y.2)) = cellsFc (ys.set k y)
  | [], k, y, h => by simp at h
  | x :: ys, 0, y, _ => by simp [cellsFc_cons]
  | x :: ys, k + 1, y, h => by
    have ih := cellsFc_set ys k y (by simpa using h)
    rw [cellsFc_cons, List.set_cons_succ, cellsFc_cons, ← ih, show (k + 1) * 2 = k * 2 + 1 + 1 by omega]
    simp
theorem zerosFc (n : Nat) : cellsFc (List.replicate n (0, 0)) = (madeCells #[.int .i64 0, .int .i64 0] (n * 2)).toList := by
  apply List.ext_getElem?
  intro j
  by_cases hj : j < n * 2
  · have h := cellsFc_get (List.replicate n ((0, 0) : Fc)) (j / 2) (by simp; omega)
    have e : atFc (List.replicate n ((0, 0) : Fc)) (j / 2) = (0, 0) := by unfold atFc; simp [List.getD, show j / 2 < n by omega]
    rw [e] at h
    have h3 : j % 2 = 0 ∨ j % 2 = 1 := by omega
    rcases h3 with h3 | h3
    · have hz : (madeCells #[Value.int .i64 0, .int .i64 0] (n * 2)).toList[j]? = some (.int .i64 0) := by simp [madeCells, hj, h3]
      rw [hz]
      have h5 := h.1
      rw [show j / 2 * 2 = j by omega] at h5
      exact h5
    · have hz : (madeCells #[Value.int .i64 0, .int .i64 0] (n * 2)).toList[j]? = some (.int .i64 0) := by simp [madeCells, hj, h3]
      rw [hz]
      have h5 := h.2
      rw [show j / 2 * 2 + 1 = j by omega] at h5
      exact h5
  · rw [List.getElem?_eq_none (by rw [cellsFc_length]; simp; omega), List.getElem?_eq_none (by simp [madeCells]; omega)]

set_option maxRecDepth 100000 in
theorem infoFraction : (Try.prog.info? 38).map (fun i => (i.zero, i.size, i.bytes)) = some (some (.agg #[.int .i64 0, .int .i64 0]), 2, 16) := by kernel_rfl

theorem eqFc_of_all {xs ys : List Fc} (hl : xs.length = ys.length) (h : ∀ j, j < xs.length → atFc xs j = atFc ys j) : xs = ys := by
  apply List.ext_getElem hl
  intro j h1 h2
  have := h j h1
  simpa [atFc, List.getD, List.getElem?_eq_getElem h1, List.getElem?_eq_getElem h2] using this

set_option maxRecDepth 100000 in
set_option maxHeartbeats 1000000 in
theorem eqFractionS_self (a b : Value) (xs : List Fc) (w : World) (ha : Fcs w a xs) (hb : Fcs w b xs) (hn : xs.length ≤ 2097152) :
    Calls Try.prog 28 #[a, b] w fun e w' => e = .returned (.bool true) ∧ Below w.heap.size w w' := by
  by_cases h0 : xs.length = 0
  · have hx : xs = [] := List.length_eq_zero_iff.1 h0
    subst hx
    obtain ⟨a1, c1, rfl⟩ := ha.nil
    obtain ⟨a2, c2, rfl⟩ := hb.nil
    clear ha hb h0 hn
    go_enter Try.func28, Try.ntmps28
    go_wp2
    go_rounds 1
    go_ret
    exact ⟨rfl, Below.refl _ _⟩
  · obtain ⟨b1, o1, c1, rfl, hl1, hc1⟩ := ha.pos (by omega)
    obtain ⟨b2, o2, c2, rfl, hl2, hc2⟩ := hb.pos (by omega)
    clear ha hb
    obtain ⟨n, hln⟩ : ∃ n, n = xs.length := ⟨_, rfl⟩
    rw [← hln] at hc1 hc2 hn h0 ⊢
    clear hln
    have H1 := Lib.hid hc1
    have H2 := Lib.hid hc2
    have hne : ((n : Int) != (n : Int)) = false := by simp
    clear hc1 hc2
    go_enter Try.func28, Try.ntmps28
    go_wp2
    go_loopw [5] (fun i wr => ∃ k : Nat, k ≤ n ∧ i = .int .i64 k ∧ Below w.heap.size w wr) (fun i _ => n - (intOf i).toNat)
    case atStart => exact ⟨0, Nat.zero_le _, rfl, Below.refl _ _⟩
    case round =>
      obtain ⟨k, hk, rfl, hB⟩ := hrel
      by_cases hlt : k < n
      · obtain ⟨y0, y1, hy⟩ : ∃ y0 y1, (y0, y1) = atFc xs k := ⟨_, _, rfl⟩
        have p1 := H1.out k hlt
        have p2 := H2.out k hlt
        rw [← hy] at p1 p2
        have c10 : wr.cell? ⟨b1, o1 + k * 2, none⟩ = some (.int .i64 y0) := (hB.cell (p := ⟨b1, _, none⟩) hl1).trans p1.1
        have c11 : wr.cell? ⟨b1, o1 + k * 2 + 1, none⟩ = some (.int .i64 y1) := (hB.cell (p := ⟨b1, _, none⟩) hl1).trans p1.2
        have c20 : wr.cell? ⟨b2, o2 + k * 2, none⟩ = some (.int .i64 y0) := (hB.cell (p := ⟨b2, _, none⟩) hl2).trans p2.1
        have c21 : wr.cell? ⟨b2, o2 + k * 2 + 1, none⟩ = some (.int .i64 y1) := (hB.cell (p := ⟨b2, _, none⟩) hl2).trans p2.2
        have HB := Lib.hid hB
        clear p1 p2 hy hB
        go_wp2
        go_region_with (go_at_call 23; refine (eqFraction_same _ _ _).mono ?_; rintro e w2 ⟨rfl, hB2⟩)
        all_goals
          go_wp2
          go_roundw
          case rel => exact ⟨k + 1, by omega, by go_num, HB.out.trans ((Below.drew (Below.refl _ _)).trans (hB2.mono HB.out.size))⟩
          case measure => simp [intOf]; omega
      · have hkn : k = n := by omega
        subst hkn
        have HB := Lib.hid hB
        clear hB
        go_wp2
        go_ret
        exact ⟨rfl, HB.out⟩
end Go.Proofs.Ytekejhnhkifcfaa
