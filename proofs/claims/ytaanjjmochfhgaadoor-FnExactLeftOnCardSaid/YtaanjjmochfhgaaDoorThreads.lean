/-
  No statement is proved here: the threads of strands as a list of the program's own; condition: at most 1048576 strands.
-/
import Derived.Test.YtaanjjmochfhgaaDoorSnOk
import Derived.Test.YtaanjjmochfhgaaDoorSnS
import Derived.OwnWalk
import Derived.Deep.RegionHeld3
namespace Go.Proofs.YtaanjjmochfhgaaDoor
open Go.ChangeShapes Go.WideShapes Go.ChangeAt Go.RowKit

/-- A thread: its dye, its length, and when it comes off. -/
abbrev Th := Int × Int × Int
def cellsT (ys : List Th) : List Value := ys.flatMap fun y => [.int .u8 y.1, .int .i64 y.2.1, .int .i64 y.2.2]
def tat (ys : List Th) (j : Nat) : Th := ys.getD j (0, 0, 0)
theorem cellsT_cons (y : Th) (ys : List Th) : cellsT (y :: ys) = .int .u8 y.1 :: .int .i64 y.2.1 :: .int .i64 y.2.2 :: cellsT ys := rfl
theorem cellsT_length (ys : List Th) : (cellsT ys).length = ys.length * 3 := by
  induction ys with
  | nil => rfl
  | cons y ys ih => rw [cellsT_cons]; simp only [List.length_cons, ih]; omega
theorem cellsT_get : ∀ (ys : List Th) (j : Nat), j < ys.length →
    (cellsT ys)[j * 3]? = some (.int .u8 (tat ys j).1) ∧ (cellsT ys)[j * 3 + 1]? = some (.int .i64 (tat ys j).2.1) ∧ (cellsT ys)[j * 3 + 2]? = some (.int .i64 (tat ys j).2.2)
  | [], j, h => by simp at h
  | y :: ys, 0, _ => by rw [cellsT_cons]; exact ⟨rfl, rfl, rfl⟩
  | y :: ys, j + 1, h => by
    have ih := cellsT_get ys j (by simpa using h)
    have e : tat (y :: ys) (j + 1) = tat ys j := rfl
    rw [cellsT_cons, e, show (j + 1) * 3 = j * 3 + 1 + 1 + 1 by omega]
    exact ⟨by simpa using ih.1, by simpa using ih.2.1, by simpa using ih.2.2⟩

/-- The first k threads, and zeros behind them. -/
def fillT (ys : List Th) (k : Nat) : List Th := ys.take k ++ List.replicate (ys.length - k) (0, 0, 0)
theorem fillT_length (ys : List Th) (k : Nat) (hk : k ≤ ys.length) : (fillT ys k).length = ys.length := by simp [fillT]; omega
theorem fillT_all (ys : List Th) : fillT ys ys.length = ys := by simp [fillT]
theorem fillT_zero (ys : List Th) : fillT ys 0 = List.replicate ys.length (0, 0, 0) := by simp [fillT]
theorem fillT_step (ys : List Th) (k : Nat) (hk : k < ys.length) : (fillT ys k).set k (tat ys k) = fillT ys (k + 1) := by
  have e1 : (ys.take k).length = k := by rw [List.length_take]; omega
  have e2 : ys.length - k = (ys.length - (k + 1)) + 1 := by omega
  have e3 : ys.take (k + 1) = ys.take k ++ [tat ys k] := by
    rw [List.take_add_one, List.getElem?_eq_getElem hk, tat, List.getD, List.getElem?_eq_getElem hk]
    rfl
  rw [fillT, fillT, List.set_append, if_neg (by omega), e1, Nat.sub_self, e2, List.replicate_succ, List.set_cons_zero, e3, List.append_assoc]
  rfl
theorem cellsT_set : ∀ (ys : List Th) (k : Nat) (y : Th), k < ys.length →
    (((cellsT ys).set (k * 3) (.int .u8 y.1)).set (k * 3 + 1) (.int .i64 y.2.1)).set (k * 3 + 2) (.int .i64 y.2.2) = cellsT (ys.set k y)
  | [], k, y, h => by simp at h
  | x :: ys, 0, y, _ => by simp [cellsT_cons]
  | x :: ys, k + 1, y, h => by
    have ih := cellsT_set ys k y (by simpa using h)
    rw [cellsT_cons, List.set_cons_succ, cellsT_cons, ← ih, show (k + 1) * 3 = k * 3 + 1 + 1 + 1 by omega]
    simp
theorem zerosT (n : Nat) : cellsT (List.replicate n (0, 0, 0)) = (madeCells #[.int .u8 0, .int .i64 0, .int .i64 0] (n * 3)).toList := by
  apply List.ext_getElem?
  intro j
  by_cases hj : j < n * 3
  · have h := cellsT_get (List.replicate n ((0, 0, 0) : Th)) (j / 3) (by simp; omega)
    have e : tat (List.replicate n ((0, 0, 0) : Th)) (j / 3) = (0, 0, 0) := by unfold tat; simp [List.getD, show j / 3 < n by omega]
    rw [e] at h
    have h3 : j % 3 = 0 ∨ j % 3 = 1 ∨ j % 3 = 2 := by omega
    rcases h3 with h3 | h3 | h3
    · have hz : (madeCells #[Value.int .u8 0, .int .i64 0, .int .i64 0] (n * 3)).toList[j]? = some (.int .u8 0) := by simp [madeCells, hj, h3]
      rw [hz]
      have h4 : j = j / 3 * 3 := by omega
      exact h4 ▸ h.1
    · have hz : (madeCells #[Value.int .u8 0, .int .i64 0, .int .i64 0] (n * 3)).toList[j]? = some (.int .i64 0) := by simp [madeCells, hj, h3]
      rw [hz]
      have h4 : j = j / 3 * 3 + 1 := by omega
      exact h4 ▸ h.2.1
    · have hz : (madeCells #[Value.int .u8 0, .int .i64 0, .int .i64 0] (n * 3)).toList[j]? = some (.int .i64 0) := by simp [madeCells, hj, h3]
      rw [hz]
      have h4 : j = j / 3 * 3 + 2 := by omega
      exact h4 ▸ h.2.2
  · rw [List.getElem?_eq_none (by rw [cellsT_length]; simp; omega), List.getElem?_eq_none (by simp [madeCells]; omega)]

/-- The threads of strands. -/
def threadsT (ss : List Sn) : List Th := ss.map fun s => (s.2, s.1, 0)
theorem threadsT_length (ss : List Sn) : (threadsT ss).length = ss.length := by simp [threadsT]
theorem threadsT_at (ss : List Sn) (k : Nat) : tat (threadsT ss) k = ((sat ss k).2, (sat ss k).1, 0) := by
  unfold tat threadsT sat
  by_cases h : k < ss.length
  · simp [List.getD, List.getElem?_eq_getElem h]
  · simp [List.getD, List.getElem?_eq_none (show ss.length ≤ k by omega)]
/-- A slice of threads that the call itself has made. -/
def OwnT (w : World) (base : Nat) (v : Value) (ts : List Th) : Prop := w.ownsRow base 87 3 v ts.length (cellsT ts)

set_option maxRecDepth 100000 in
theorem infoThread : (Tryd.prog.info? 87).map (fun i => (i.zero, i.size, i.bytes)) = some (some (.agg #[.int .u8 0, .int .i64 0, .int .i64 0]), 3, 24) := by kernel_rfl

set_option maxRecDepth 100000 in
set_option maxHeartbeats 4000000 in
theorem threadsOf_any (v : Value) (ss : List Sn) (w : World) (h : Strands w v ss) (hn : ss.length ≤ 1048576) :
    Calls Tryd.prog 33 #[v] w fun e w' => ∃ u, e = .returned u ∧ OwnT w' w.heap.size u (threadsT ss) ∧ Below w.heap.size w w' := by
  obtain ⟨i0, hi, hz0, hz1, hz2⟩ := info_parts infoThread
  by_cases h0 : ss.length = 0
  · have hx : ss = [] := List.length_eq_zero_iff.1 h0
    subst hx
    obtain ⟨a, cap, rfl⟩ := h.nil
    go_enter Tryd.func33, Tryd.ntmps33
    go_wp2_with (first | (at_make; refine wpList_make_full _ rfl _ _ 62 rfl w.heap.size 87 i0 (.agg #[.int .u8 0, .int .i64 0, .int .i64 0]) 3 Tryd.underlying62 hi hz0 hz1 _ _ _ _ 0 rfl rfl rfl rfl (by omega) (by decide) (Nat.le_refl _) ?_; intro w1 hown hgrow) | go_in)
    go_rounds 1
    go_ret
    exact ⟨_, rfl, by simpa [OwnT, madeCells, cellsT, threadsT] using hown, (Below.refl _ _).grown hgrow (Nat.le_refl _) (fun k hk => by cases hk)⟩
  · obtain ⟨b, off, cap, rfl, hb, hc⟩ := h.pos (by omega)
    have H16 := Lib.hid h.1
    obtain ⟨ys, hys⟩ : ∃ ys, ys = threadsT ss := ⟨_, rfl⟩
    have HAt := Lib.hid (show ∀ k, tat ys k = ((sat ss k).2, (sat ss k).1, 0) from fun k => by rw [hys, threadsT_at])
    have hyl : ys.length = ss.length := by rw [hys, threadsT_length]
    rw [← hys]
    clear hys
    obtain ⟨n, hln⟩ : ∃ n, n = ss.length := ⟨_, rfl⟩
    have HL := Lib.hid (show n = ys.length by omega)
    rw [← hln] at h0 hn hc ⊢
    clear hln h hyl
    obtain ⟨B, hBe⟩ : ∃ B, B = w.heap.size := ⟨_, rfl⟩
    rw [← hBe] at hb ⊢
    have HB := Lib.hid hBe
    clear hBe
    go_enter Tryd.func33, Tryd.ntmps33
    go_wp2_with (first | (at_make; refine wpList_make_full _ rfl _ _ 62 rfl w.heap.size 87 i0 (.agg #[.int .u8 0, .int .i64 0, .int .i64 0]) 3 Tryd.underlying62 hi hz0 hz1 _ _ _ _ n rfl rfl rfl rfl (by rw [hz2]; omega) (by unfold maxLen; omega) (Nat.le_refl _) ?_; intro w1 hown hgrow) | go_in)
    have hB1 : Below B w w1 := (Below.refl _ _).grown hgrow (by rw [HB.out]; omega) (fun k hk => by cases hk)
    have hfl := fun k (hk : k ≤ n) => fillT_length ys k (by rw [← HL.out]; exact hk)
    have hst := fun k (hk : k < n) => fillT_step ys k (by rw [← HL.out]; exact hk)
    have hz0' : (madeCells (Value.agg #[.int .u8 0, .int .i64 0, .int .i64 0]).cells (n * 3)).toList = cellsT (fillT ys 0) := by
      rw [fillT_zero, ← HL.out]
      exact (zerosT n).symm
    rw [hz0', ← HB.out] at hown
    rw [← HB.out]
    have HW := Lib.hid hown
    have HC := Lib.hid hc
    have HBB := Lib.hid hB1
    have HFL := Lib.hid hfl
    have HST := Lib.hid hst
    clear hown hc hB1 hgrow hz0' hfl hst
    go_loopw [11] (fun i wr => ∃ k : Nat, k ≤ n ∧ i = .int .i64 k ∧ Hid (wr.ownsRow B 87 3 (.slice (some ⟨B, 0, none⟩) n n) n (cellsT (fillT ys k))) ∧ Hid (Below B w wr)) (fun i _ => n - (intOf i).toNat)
    case atStart => exact ⟨0, Nat.zero_le _, rfl, HW, HBB⟩
    case round =>
      obtain ⟨k, hk, rfl, hO, hBe⟩ := hrel
      by_cases hlt : k < n
      · obtain ⟨p1, p2⟩ := HC.out k hlt
        have u3 := H16.out k
        have hat := HAt.out k
        obtain ⟨y, hy⟩ : ∃ y, y = sat ss k := ⟨_, rfl⟩
        rw [← hy] at p1 p2 u3 hat
        obtain ⟨y0, y1⟩ := y
        simp only at p1 p2 hat
        have c0 : wr.cell? ⟨b, off + k * 2, none⟩ = some (.int .i16 y0) := (hBe.out.cell (p := ⟨b, _, none⟩) hb).trans p1
        have c1 : wr.cell? ⟨b, off + k * 2 + 1, none⟩ = some (.int .u8 y1) := (hBe.out.cell (p := ⟨b, _, none⟩) hb).trans p2
        have HT := Lib.hid (show ∀ wx, Calls Tryd.prog 48 #[.agg #[.int .i16 y0, .int .u8 y1]] wx fun e w' => e = .returned (.agg #[.int .u8 y1, .int .i64 y0, .int .i64 0]) ∧ Below wx.heap.size wx w' from fun wx => thread_any y0 y1 wx u3)
        have HAk := Lib.hid hat
        clear p1 p2 u3 hat hy
        go_wp2_with fail
        refine (HT.out _).mono ?_
        rintro e w2 ⟨rfl, hB2⟩
        have hbl : B < wr.heap.size := (World.ownsRow.lt hO.out B rfl).2
        have hfill : k < (fillT ys k).length := by rw [HFL.out k hk, ← HL.out]; exact hlt
        have hcy := cellsT_get (fillT ys k) k hfill
        have hb3 : Below wr.heap.size wr w2 := ((Below.refl wr.heap.size wr).alloc (Nat.le_refl _) _).trans (hB2.mono (by simp))
        have hO2 : Hid (w2.ownsRow B 87 3 (.slice (some ⟨B, 0, none⟩) n n) n (cellsT (fillT ys k))) := by
          refine ⟨hO.out.1, ?_⟩
          rcases hO.out.2 with h2 | ⟨g, cap, cur, hv, hg, hh, r⟩
          · exact .inl h2
          · exact .inr ⟨g, cap, cur, hv, hg, by rw [hb3.block g (lt_of_block hh)]; exact hh, r⟩
        have d0 := (hO2.out.cellAt (k * 3) (by omega)).trans hcy.1
        have d1 := (hO2.out.cellAt (k * 3 + 1) (by omega)).trans hcy.2.1
        have d2 := (hO2.out.cellAt (k * 3 + 2) (by omega)).trans hcy.2.2
        have f0 : w2.frozen? ⟨B, k * 3, none⟩ = false := hO2.out.frozenAt _
        have f1 : w2.frozen? ⟨B, k * 3 + 1, none⟩ = false := hO2.out.frozenAt _
        have f2 : w2.frozen? ⟨B, k * 3 + 2, none⟩ = false := hO2.out.frozenAt _
        have hBB := Lib.hid (hBe.out.trans (hb3.mono (by rw [HB.out]; exact hBe.out.size)))
        have HFI := Lib.hid hfill
        clear hcy hB2 hb3 hfill c0 c1
        go_wp2
        go_roundw
        case rel =>
          have s1 := (hO2.out.stored (k * 3) (Value.int .u8 y1)).1
          have s2 := (s1.stored (k * 3 + 1) (Value.int .i64 y0)).1
          have s3 := (s2.stored (k * 3 + 2) (Value.int .i64 0)).1
          have e := cellsT_set (fillT ys k) k (y1, y0, 0) HFI.out
          rw [e, ← HAk.out, HST.out k hlt] at s3
          refine ⟨k + 1, by omega, by go_num, Lib.hid s3, Lib.hid ?_⟩
          exact ((hBB.out.setCell (p := ⟨B, k * 3, none⟩) (by rw [HB.out]; exact Nat.le_refl _) _).setCell (p := ⟨B, k * 3 + 1, none⟩) (by rw [HB.out]; exact Nat.le_refl _) _).setCell (p := ⟨B, k * 3 + 2, none⟩) (by rw [HB.out]; exact Nat.le_refl _) _
        case measure => simp [intOf]; omega
      · have hkn : k = n := by omega
        subst hkn
        have e : fillT ys k = ys := by rw [HL.out]; exact fillT_all ys
        go_wp2
        go_ret
        refine ⟨_, rfl, ?_, hBe.out⟩
        have h := hO.out
        rw [e] at h
        unfold OwnT
        rw [← HL.out]
        exact h
end Go.Proofs.YtaanjjmochfhgaaDoor
