/-
  No statement is proved here: how a law copies a list of orders, and compares two; condition: at most 2097152 of them.
-/
import Derived.Test.YtapimmlhcbjgoaaOd
import Derived.OwnWalk
import Derived.Deep.RegionHeld3
namespace Go.Proofs.Ytapimmlhcbjgoaa
open Go.ChangeShapes Go.WideShapes Go.ChangeAt Go.RowKit

theorem toOrder_any (a b : Int) (w : World) :
    Calls Try.prog 24 #[.agg #[.int .i8 a, .int .i16 b]] w fun e w' => e = .returned (.agg #[.int .i8 a, .int .i16 b]) ∧ Below w.heap.size w w' := by
  go_enter Try.func24, Try.ntmps24
  go_wp2
  go_returns
  exact ⟨rfl, by go_grown⟩

theorem eqOrder_same (a b : Int) (w : World) :
    Calls Try.prog 28 #[.agg #[.int .i8 a, .int .i16 b], .agg #[.int .i8 a, .int .i16 b]] w fun e w' => e = .returned (.bool true) ∧ Below w.heap.size w w' := by
  have ha : (a != a) = false := by simp
  have hb : (b != b) = false := by simp
  go_enter Try.func28, Try.ntmps28
  go_wp2
  go_ret
  exact ⟨rfl, by go_grown⟩

/-- The first k, and zeros behind them. -/
def fillOd (ys : List Od) (k : Nat) : List Od := ys.take k ++ List.replicate (ys.length - k) (0, 0)
theorem fillOd_length (ys : List Od) (k : Nat) (hk : k ≤ ys.length) : (fillOd ys k).length = ys.length := by simp [fillOd]; omega
theorem fillOd_all (ys : List Od) : fillOd ys ys.length = ys := by simp [fillOd]
theorem fillOd_zero (ys : List Od) : fillOd ys 0 = List.replicate ys.length (0, 0) := by simp [fillOd]
theorem takeOd {ys : List Od} {k : Nat} (hk : k < ys.length) : ys.take (k + 1) = ys.take k ++ [atOd ys k] := by
  rw [List.take_add_one, List.getElem?_eq_getElem hk, atOd, List.getD, List.getElem?_eq_getElem hk]
  rfl
theorem fillOd_step (ys : List Od) (k : Nat) (hk : k < ys.length) : (fillOd ys k).set k (atOd ys k) = fillOd ys (k + 1) := by
  have e1 : (ys.take k).length = k := by rw [List.length_take]; omega
  have e2 : ys.length - k = (ys.length - (k + 1)) + 1 := by omega
  rw [fillOd, fillOd, List.set_append, if_neg (by omega), e1, Nat.sub_self, e2, List.replicate_succ, List.set_cons_zero, takeOd hk, List.append_assoc]
  rfl
theorem cellsOd_set : ∀ (ys : List Od) (k : Nat) (y : Od), k < ys.length →
    (((cellsOd ys).set (k * 2) (.int .i8 y.1)).set (k * 2 + 1) (.int .i16 y.2)) = cellsOd (ys.set k y)
  | [], k, y, h => by simp at h
  | x :: ys, 0, y, _ => by simp [cellsOd_cons]
  | x :: ys, k + 1, y, h => by
    have ih := cellsOd_set ys k y (by simpa using h)
    rw [cellsOd_cons, List.set_cons_succ, cellsOd_cons, ← ih, show (k + 1) * 2 = k * 2 + 1 + 1 by omega]
    simp
theorem zerosOd (n : Nat) : cellsOd (List.replicate n (0, 0)) = (madeCells #[.int .i8 0, .int .i16 0] (n * 2)).toList := by
  apply List.ext_getElem?
  intro j
  by_cases hj : j < n * 2
  · have h := cellsOd_get (List.replicate n ((0, 0) : Od)) (j / 2) (by simp; omega)
    have e : atOd (List.replicate n ((0, 0) : Od)) (j / 2) = (0, 0) := by unfold atOd; simp [List.getD, show j / 2 < n by omega]
    rw [e] at h
    have h3 : j % 2 = 0 ∨ j % 2 = 1 := by omega
    rcases h3 with h3 | h3
    · have hz : (madeCells #[Value.int .i8 0, .int .i16 0] (n * 2)).toList[j]? = some (.int .i8 0) := by simp [madeCells, hj, h3]
      rw [hz]
      have h5 := h.1
      rw [show j / 2 * 2 = j by omega] at h5
      exact h5
    · have hz : (madeCells #[Value.int .i8 0, .int .i16 0] (n * 2)).toList[j]? = some (.int .i16 0) := by simp [madeCells, hj, h3]
      rw [hz]
      have h5 := h.2
      rw [show j / 2 * 2 + 1 = j by omega] at h5
      exact h5
  · rw [List.getElem?_eq_none (by rw [cellsOd_length]; simp; omega), List.getElem?_eq_none (by simp [madeCells]; omega)]

set_option maxRecDepth 100000 in
theorem infoOrder : (Try.prog.info? 49).map (fun i => (i.zero, i.size, i.bytes)) = some (some (.agg #[.int .i8 0, .int .i16 0]), 2, 4) := by kernel_rfl

set_option maxRecDepth 100000 in
set_option maxHeartbeats 1000000 in
theorem toOrderS_any (v : Value) (ys : List Od) (w : World) (h : Ods w v ys) (hn : ys.length ≤ 1048576) :
    Calls Try.prog 9 #[v] w fun e w' => ∃ u, e = .returned u ∧ OwnOd w' w.heap.size u ys ∧ Below w.heap.size w w' := by
  obtain ⟨i0, hi, hz0, hz1, hz2⟩ := info_parts infoOrder
  by_cases h0 : ys.length = 0
  · have hx : ys = [] := List.length_eq_zero_iff.1 h0
    subst hx
    obtain ⟨a, cap, rfl⟩ := h.nil
    have h16 := h.1
    go_enter Try.func9, Try.ntmps9
    go_wp2_with (first | (at_make; refine wpList_make_full _ rfl _ _ 31 rfl w.heap.size 49 i0 (.agg #[.int .i8 0, .int .i16 0]) 2 Try.underlying31 hi hz0 hz1 _ _ _ _ 0 rfl rfl rfl rfl (by omega) (by decide) (Nat.le_refl _) ?_; intro w1 hown hgrow) | go_in)
    go_rounds 1
    go_ret
    exact ⟨_, rfl, ⟨h16, by simpa [madeCells, cellsOd] using hown⟩, (Below.refl _ _).grown hgrow (Nat.le_refl _) (fun k hk => by cases hk)⟩
  · obtain ⟨b, off, cap, rfl, hb, hc⟩ := h.pos (by omega)
    have h16 := h.1
    obtain ⟨n, hln⟩ : ∃ n, n = ys.length := ⟨_, rfl⟩
    have HL := Lib.hid hln
    rw [← hln] at h0 hn hc ⊢
    clear hln h
    obtain ⟨B, hBe⟩ : ∃ B, B = w.heap.size := ⟨_, rfl⟩
    rw [← hBe] at hb ⊢
    have HB := Lib.hid hBe
    clear hBe
    have H16 := Lib.hid h16
    clear h16
    go_enter Try.func9, Try.ntmps9
    go_wp2_with (first | (at_make; refine wpList_make_full _ rfl _ _ 31 rfl w.heap.size 49 i0 (.agg #[.int .i8 0, .int .i16 0]) 2 Try.underlying31 hi hz0 hz1 _ _ _ _ n rfl rfl rfl rfl (by rw [hz2]; omega) (by unfold maxLen; omega) (Nat.le_refl _) ?_; intro w1 hown hgrow) | go_in)
    have hB1 : Below B w w1 := (Below.refl _ _).grown hgrow (by rw [HB.out]; omega) (fun k hk => by cases hk)
    have hfl := fun k (hk : k ≤ n) => fillOd_length ys k (by rw [← HL.out]; exact hk)
    have hst := fun k (hk : k < n) => fillOd_step ys k (by rw [← HL.out]; exact hk)
    have hz0' : (madeCells (Value.agg #[.int .i8 0, .int .i16 0]).cells (n * 2)).toList = cellsOd (fillOd ys 0) := by
      rw [fillOd_zero, ← HL.out]
      exact (zerosOd n).symm
    rw [hz0', ← HB.out] at hown
    rw [← HB.out]
    have HW := Lib.hid hown
    have HC := Lib.hid hc
    have HBB := Lib.hid hB1
    have HFL := Lib.hid hfl
    have HST := Lib.hid hst
    have HZ1 := Lib.hid (show B < w1.heap.size by
      have := World.ownsRow.lt hown B rfl
      omega)
    clear hown hc hB1 hgrow hz0' hfl hst
    go_loopw [4] (fun i wr => ∃ k : Nat, k ≤ n ∧ i = .int .i64 k ∧ Hid (wr.ownsRow B 49 2 (.slice (some ⟨B, 0, none⟩) n n) n (cellsOd (fillOd ys k))) ∧ Hid (Below B w wr)) (fun i _ => n - (intOf i).toNat)
    case atStart => exact ⟨0, Nat.zero_le _, rfl, HW, HBB⟩
    case round =>
      obtain ⟨k, hk, rfl, hO, hBe⟩ := hrel
      by_cases hlt : k < n
      · obtain ⟨y0, y1, hy⟩ : ∃ y0 y1, (y0, y1) = atOd ys k := ⟨_, _, rfl⟩
        have hcc := HC.out k hlt
        rw [← hy] at hcc
        have c0 : wr.cell? ⟨b, off + k * 2, none⟩ = some (.int .i8 y0) := (hBe.out.cell (p := ⟨b, _, none⟩) hb).trans hcc.1
        have c1 : wr.cell? ⟨b, off + k * 2 + 1, none⟩ = some (.int .i16 y1) := (hBe.out.cell (p := ⟨b, _, none⟩) hb).trans hcc.2
        clear hcc
        go_wp2_with fail
        refine (toOrder_any _ _ _).mono ?_
        rintro e w2 ⟨rfl, hB2⟩
        have hbl : B < wr.heap.size := (World.ownsRow.lt hO.out B rfl).2
        have hfill : k < (fillOd ys k).length := by rw [HFL.out k hk, ← HL.out]; exact hlt
        have hcy := cellsOd_get (fillOd ys k) k hfill
        have hO2 : Hid (w2.ownsRow B 49 2 (.slice (some ⟨B, 0, none⟩) n n) n (cellsOd (fillOd ys k))) := by
          refine ⟨hO.out.1, ?_⟩
          rcases hO.out.2 with h2 | ⟨g, cap, cur, hv, hg, hh, r⟩
          · exact .inl h2
          · exact .inr ⟨g, cap, cur, hv, hg, by rw [hB2.block g (lt_of_block hh)]; exact hh, r⟩
        have d0 := (hO2.out.cellAt (k * 2) (by omega)).trans hcy.1
        have f0 : w2.frozen? ⟨B, k * 2, none⟩ = false := hO2.out.frozenAt _
        have d1 := (hO2.out.cellAt (k * 2 + 1) (by omega)).trans hcy.2
        have f1 : w2.frozen? ⟨B, k * 2 + 1, none⟩ = false := hO2.out.frozenAt _
        have hBB := Lib.hid (hBe.out.trans (hB2.mono (by rw [HB.out]; exact hBe.out.size)))
        have HY := Lib.hid hy
        have HFI := Lib.hid hfill
        clear hcy hB2 hy hfill
        go_wp2
        go_roundw
        case rel =>
          have s1 := (hO2.out.stored (k * 2) (Value.int .i8 y0)).1
          have s2 := (s1.stored (k * 2 + 1) (Value.int .i16 y1)).1
          have e := cellsOd_set (fillOd ys k) k (y0, y1) HFI.out
          rw [e, HY.out, HST.out k hlt] at s2
          refine ⟨k + 1, by omega, by go_num, Lib.hid s2, Lib.hid ?_⟩
          exact ((hBB.out.setCell (p := ⟨B, k * 2, none⟩) (by rw [HB.out]; exact Nat.le_refl _) _).setCell (p := ⟨B, k * 2 + 1, none⟩) (by rw [HB.out]; exact Nat.le_refl _) _)
        case measure => simp [intOf]; omega
      · have hkn : k = n := by omega
        subst hkn
        have e : fillOd ys k = ys := by rw [HL.out]; exact fillOd_all ys
        go_wp2
        go_ret
        refine ⟨_, rfl, ⟨H16.out, ?_⟩, hBe.out⟩
        have h := hO.out
        rw [e] at h
        rw [← HL.out]
        exact h

theorem szOrderS_any (v : Value) (ys : List Od) (z : Int) (w : World) (h : Ods w v ys) (hz : 0 ≤ z) (hz' : z ≤ 1048576) (hn : (ys.length : Int) ≤ z) :
    Calls Try.prog 6 #[v, .int .i64 z] w fun e w' => e = .returned (.int .i64 (z - ys.length)) ∧ w = w' := by
  obtain ⟨a1, c1, rfl⟩ := h.len
  clear h
  generalize ys.length = n at *
  have hlt : ¬ z - (n : Int) < 0 := by omega
  go_enter Try.func6, Try.ntmps6
  go_wp2
  go_ret
  exact ⟨rfl, rfl⟩
theorem szOrderS_no (v : Value) (ys : List Od) (z : Int) (w : World) (h : Ods w v ys) (hz : 0 ≤ z) (hz' : z ≤ 1048576) (hn : z < (ys.length : Int)) (hm : (ys.length : Int) ≤ 9223372036854775807) :
    Calls Try.prog 6 #[v, .int .i64 z] w fun e w' => e = .returned (.int .i64 (-1)) ∧ w = w' := by
  obtain ⟨a1, c1, rfl⟩ := h.len
  clear h
  generalize ys.length = n at *
  have hlt : z - (n : Int) < 0 := by omega
  go_enter Try.func6, Try.ntmps6
  go_wp2
  go_ret
  exact ⟨rfl, rfl⟩

theorem eqOd_of_all {xs ys : List Od} (hl : xs.length = ys.length) (h : ∀ j, j < xs.length → atOd xs j = atOd ys j) : xs = ys := by
  apply List.ext_getElem hl
  intro j h1 h2
  have := h j h1
  simpa [atOd, List.getD, List.getElem?_eq_getElem h1, List.getElem?_eq_getElem h2] using this

set_option maxRecDepth 100000 in
set_option maxHeartbeats 1000000 in
theorem eqOrderS_self (a b : Value) (xs : List Od) (w : World) (ha : Ods w a xs) (hb : Ods w b xs) (hn : xs.length ≤ 2097152) :
    Calls Try.prog 13 #[a, b] w fun e w' => e = .returned (.bool true) ∧ Below w.heap.size w w' := by
  by_cases h0 : xs.length = 0
  · have hx : xs = [] := List.length_eq_zero_iff.1 h0
    subst hx
    obtain ⟨a1, c1, rfl⟩ := ha.nil
    obtain ⟨a2, c2, rfl⟩ := hb.nil
    clear ha hb h0 hn
    go_enter Try.func13, Try.ntmps13
    go_wp2
    go_rounds 1
    go_ret
    exact ⟨rfl, Below.refl _ _⟩
  · obtain ⟨b1, o1, c1, rfl, hl1, hc1⟩ := ha.pos (by omega)
    obtain ⟨b2, o2, c2, rfl, hl2, hc2⟩ := hb.pos (by omega)
    clear ha hb
    obtain ⟨n, hln⟩ : ∃ n, n = xs.length := ⟨_, rfl⟩
    rw [← hln] at hc1 hc2 hn h0 ⊢
    clear hln
    have H1 := Lib.hid hc1
    have H2 := Lib.hid hc2
    have hne : ((n : Int) != (n : Int)) = false := by simp
    clear hc1 hc2
    go_enter Try.func13, Try.ntmps13
    go_wp2
    go_loopw [5] (fun i wr => ∃ k : Nat, k ≤ n ∧ i = .int .i64 k ∧ Below w.heap.size w wr) (fun i _ => n - (intOf i).toNat)
    case atStart => exact ⟨0, Nat.zero_le _, rfl, Below.refl _ _⟩
    case round =>
      obtain ⟨k, hk, rfl, hB⟩ := hrel
      by_cases hlt : k < n
      · obtain ⟨y0, y1, hy⟩ : ∃ y0 y1, (y0, y1) = atOd xs k := ⟨_, _, rfl⟩
        have p1 := H1.out k hlt
        have p2 := H2.out k hlt
        rw [← hy] at p1 p2
        have c10 : wr.cell? ⟨b1, o1 + k * 2, none⟩ = some (.int .i8 y0) := (hB.cell (p := ⟨b1, _, none⟩) hl1).trans p1.1
        have c11 : wr.cell? ⟨b1, o1 + k * 2 + 1, none⟩ = some (.int .i16 y1) := (hB.cell (p := ⟨b1, _, none⟩) hl1).trans p1.2
        have c20 : wr.cell? ⟨b2, o2 + k * 2, none⟩ = some (.int .i8 y0) := (hB.cell (p := ⟨b2, _, none⟩) hl2).trans p2.1
        have c21 : wr.cell? ⟨b2, o2 + k * 2 + 1, none⟩ = some (.int .i16 y1) := (hB.cell (p := ⟨b2, _, none⟩) hl2).trans p2.2
        have HB := Lib.hid hB
        clear p1 p2 hy hB
        go_wp2
        go_region_with (go_at_call 28; refine (eqOrder_same _ _ _).mono ?_; rintro e w2 ⟨rfl, hB2⟩)
        all_goals
          go_wp2
          go_roundw
          case rel => exact ⟨k + 1, by omega, by go_num, HB.out.trans ((Below.drew (Below.refl _ _)).trans (hB2.mono HB.out.size))⟩
          case measure => simp [intOf]; omega
      · have hkn : k = n := by omega
        subst hkn
        have HB := Lib.hid hB
        clear hB
        go_wp2
        go_ret
        exact ⟨rfl, HB.out⟩
end Go.Proofs.Ytapimmlhcbjgoaa
