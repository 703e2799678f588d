/-
  No statement is proved here: what WashedHeap of both packages returns; no condition but that the numbers are int32s and int64s.
-/
import Derived.Test.YthokpdhknohpoabLengths
namespace Go.Proofs.Ythokpdhknohpoab
open Go.RowKit Go.Shelf

attribute [local go_sem] Oper.semAt_some

/-- What the new heap holds of a length, when some lengths have come. -/
def outV (z : Nat → Int) (p : Int) (pre : List (Fin 8)) (i : Nat) : Int := if h : i < 8 then (if (⟨i, h⟩ : Fin 8) ∈ pre then z i * (100 - p) / 100 else 0) else 0
theorem outV_here (z : Nat → Int) (p : Int) (pre : List (Fin 8)) (x : Fin 8) : outV z p (pre ++ [x]) x.val = z x.val * (100 - p) / 100 := by
  unfold outV
  rw [dif_pos x.isLt, if_pos (by simp)]
theorem outV_else (z : Nat → Int) (p : Int) (pre : List (Fin 8)) (x : Fin 8) (i : Nat) (h : i ≠ x.val) : outV z p (pre ++ [x]) i = outV z p pre i := by
  unfold outV
  by_cases hi : i < 8
  · have e : ((⟨i, hi⟩ : Fin 8) ∈ pre ++ [x]) ↔ (⟨i, hi⟩ : Fin 8) ∈ pre := by
      rw [List.mem_append, List.mem_singleton]
      constructor
      · rintro (hh | hh)
        · exact hh
        · exact absurd (congrArg Fin.val hh) h
      · exact .inl
    rw [dif_pos hi, dif_pos hi]
    by_cases hm : (⟨i, hi⟩ : Fin 8) ∈ pre
    · rw [if_pos (e.2 hm), if_pos hm]
    · rw [if_neg (fun hh => hm (e.1 hh)), if_neg hm]
  · rw [dif_neg hi, dif_neg hi]
theorem outV_all (z : Nat → Int) (p : Int) (i : Nat) (hi : i < 8) : outV z p (nz z 8) i = z i * (100 - p) / 100 := by
  unfold outV
  rw [dif_pos hi]
  by_cases h0 : z i = 0
  · rw [if_neg (fun hh => ((mem_nz z ⟨i, hi⟩ 8 (Nat.le_refl _)).1 hh).2 h0), h0]
    simp
  · rw [if_pos ((mem_nz z ⟨i, hi⟩ 8 (Nat.le_refl _)).2 ⟨hi, h0⟩)]

/-- Eight cells of a block, stored one behind the other. -/
def set8 (W : World) (b : Nat) (v0 v1 v2 v3 v4 v5 v6 v7 : Value) : World := ((((((((W.setCell ⟨b, 0, none⟩ v0).setCell ⟨b, 1, none⟩ v1).setCell ⟨b, 2, none⟩ v2).setCell ⟨b, 3, none⟩ v3).setCell ⟨b, 4, none⟩ v4).setCell ⟨b, 5, none⟩ v5).setCell ⟨b, 6, none⟩ v6).setCell ⟨b, 7, none⟩ v7)
theorem set8_keeps (W : World) (b : Nat) (v0 v1 v2 v3 v4 v5 v6 v7 : Value) : KeepsOthers W (set8 W b v0 v1 v2 v3 v4 v5 v6 v7) := ((((((((KeepsOthers.setCell W ⟨b, 0, none⟩ v0).trans (KeepsOthers.setCell _ ⟨b, 1, none⟩ v1)).trans (KeepsOthers.setCell _ ⟨b, 2, none⟩ v2)).trans (KeepsOthers.setCell _ ⟨b, 3, none⟩ v3)).trans (KeepsOthers.setCell _ ⟨b, 4, none⟩ v4)).trans (KeepsOthers.setCell _ ⟨b, 5, none⟩ v5)).trans (KeepsOthers.setCell _ ⟨b, 6, none⟩ v6)).trans (KeepsOthers.setCell _ ⟨b, 7, none⟩ v7))
theorem set8_below {B : Nat} (W : World) (b : Nat) (v0 v1 v2 v3 v4 v5 v6 v7 : Value) (hb : B ≤ b) : Below B W (set8 W b v0 v1 v2 v3 v4 v5 v6 v7) := (((((((((Below.refl B W).setCell (p := ⟨b, 0, none⟩) hb v0).setCell (p := ⟨b, 1, none⟩) hb v1).setCell (p := ⟨b, 2, none⟩) hb v2).setCell (p := ⟨b, 3, none⟩) hb v3).setCell (p := ⟨b, 4, none⟩) hb v4).setCell (p := ⟨b, 5, none⟩) hb v5).setCell (p := ⟨b, 6, none⟩) hb v6).setCell (p := ⟨b, 7, none⟩) hb v7)
theorem set8_cells (W : World) (b : Nat) (v0 v1 v2 v3 v4 v5 v6 v7 : Value) (h : ∀ i : Nat, i < 8 → (W.cell? ⟨b, i, none⟩).isSome = true) : (set8 W b v0 v1 v2 v3 v4 v5 v6 v7).cell? ⟨b, 0, none⟩ = some v0 ∧ (set8 W b v0 v1 v2 v3 v4 v5 v6 v7).cell? ⟨b, 1, none⟩ = some v1 ∧ (set8 W b v0 v1 v2 v3 v4 v5 v6 v7).cell? ⟨b, 2, none⟩ = some v2 ∧ (set8 W b v0 v1 v2 v3 v4 v5 v6 v7).cell? ⟨b, 3, none⟩ = some v3 ∧ (set8 W b v0 v1 v2 v3 v4 v5 v6 v7).cell? ⟨b, 4, none⟩ = some v4 ∧ (set8 W b v0 v1 v2 v3 v4 v5 v6 v7).cell? ⟨b, 5, none⟩ = some v5 ∧ (set8 W b v0 v1 v2 v3 v4 v5 v6 v7).cell? ⟨b, 6, none⟩ = some v6 ∧ (set8 W b v0 v1 v2 v3 v4 v5 v6 v7).cell? ⟨b, 7, none⟩ = some v7 := by
  have h0 := h 0 (by omega)
  have h1 := h 1 (by omega)
  have h2 := h 2 (by omega)
  have h3 := h 3 (by omega)
  have h4 := h 4 (by omega)
  have h5 := h 5 (by omega)
  have h6 := h 6 (by omega)
  have h7 := h 7 (by omega)
  unfold set8
  refine ⟨?_, ?_, ?_, ?_, ?_, ?_, ?_, ?_⟩ <;> simp [go_sem, h0, h1, h2, h3, h4, h5, h6, h7]

/-- Between two rounds: the new heap's block, the result's, and the percent's. -/
def WashI (B4 B2 B1 : Nat) (z : Nat → Int) (p : Int) (pre : List (Fin 8)) (W : World) : Prop :=
  (∀ i : Nat, i < 8 → W.cell? ⟨B4, i, none⟩ = some (.int .i32 (outV z p pre i)) ∧ W.frozen? ⟨B4, i, none⟩ = false) ∧
  (∀ i : Nat, i < 8 → W.cell? ⟨B2, i, none⟩ = some (.int .i32 0) ∧ W.frozen? ⟨B2, i, none⟩ = false) ∧ W.cell? ⟨B1, 0, none⟩ = some (.int .i64 p)
theorem washI_own (B4 B2 B1 : Nat) (z : Nat → Int) (p : Int) : Own (WashI B4 B2 B1 z p) := fun _ _ _ _ hs hg hr =>
  ⟨fun i hi => ⟨cell_kept (hs.1 i hi).1 hg hr, (frozen_kept (hs.1 i hi).1 hg hr).trans (hs.1 i hi).2⟩, fun i hi => ⟨cell_kept (hs.2.1 i hi).1 hg hr, (frozen_kept (hs.2.1 i hi).1 hg hr).trans (hs.2.1 i hi).2⟩, cell_kept hs.2.2 hg hr⟩
theorem washI_step {B4 B2 B1 : Nat} {z : Nat → Int} {p : Int} {pre : List (Fin 8)} {W : World} (h : WashI B4 B2 B1 z p pre W) (x : Fin 8) (h42 : B4 ≠ B2) (h41 : B4 ≠ B1) :
    WashI B4 B2 B1 z p (pre ++ [x]) (W.setCell ⟨B4, x.val, none⟩ (.int .i32 (z x.val * (100 - p) / 100))) := by
  refine ⟨fun i hi => ⟨?_, by rw [World.frozen?_setCell]; exact (h.1 i hi).2⟩, fun i hi => ⟨?_, by rw [World.frozen?_setCell]; exact (h.2.1 i hi).2⟩, ?_⟩
  · by_cases e : i = x.val
    · subst e
      rw [World.cell?_setCell_same' _ _ _ (by rw [(h.1 x.val hi).1]; rfl), outV_here]
    · rw [World.cell?_setCell_other (h := fun hh => e (by injection hh with _ h2; exact h2.symm)), outV_else _ _ _ _ _ e]
      exact (h.1 i hi).1
  · rw [World.cell?_setCell_other (h := fun hh => h42 (by injection hh))]
    exact (h.2.1 i hi).1
  · rw [World.cell?_setCell_other (h := fun hh => h41 (by injection hh))]
    exact h.2.2

theorem wash_bd {g p : Int} (hg : 0 ≤ g ∧ g ≤ 1000) (h0 : 0 ≤ p) (h1 : p ≤ 100) : 0 ≤ g * (100 - p) ∧ g * (100 - p) ≤ 100000 := by
  have e1 : 0 ≤ g * (100 - p) := Int.mul_nonneg hg.1 (by omega)
  have e2 : g * (100 - p) ≤ 1000 * (100 - p) := Int.mul_le_mul_of_nonneg_right hg.2 (by omega)
  omega

set_option maxRecDepth 100000 in
set_option maxHeartbeats 4000000 in
theorem implWashed_yes (x0 x1 x2 x3 x4 x5 x6 x7 p : Int) (hok : okH (z8 x0 x1 x2 x3 x4 x5 x6 x7) = true) (h0 : 0 ≤ p) (h1 : p ≤ 100) (w : World) :
    Calls Try.prog 13 #[.agg #[.int .i32 x0, .int .i32 x1, .int .i32 x2, .int .i32 x3, .int .i32 x4, .int .i32 x5, .int .i32 x6, .int .i32 x7], .int .i64 p] w fun e w' => e = .returned (.tuple #[.agg #[.int .i32 (x0 * (100 - p) / 100), .int .i32 (x1 * (100 - p) / 100), .int .i32 (x2 * (100 - p) / 100), .int .i32 (x3 * (100 - p) / 100), .int .i32 (x4 * (100 - p) / 100), .int .i32 (x5 * (100 - p) / 100), .int .i32 (x6 * (100 - p) / 100), .int .i32 (x7 * (100 - p) / 100)], .int .i64 0]) ∧ Below w.heap.size w w' := by
  have hv := fun wx => validHeap_exact x0 x1 x2 x3 x4 x5 x6 x7 wx
  rw [hok] at hv
  have HV := Lib.hid hv
  have HO := Lib.hid hok
  have hp0 : decide (p < 0) = false := by simp; omega
  have hp1 : decide (100 < p) = false := by simp; omega
  clear hv hok
  refine (callsIn_wide (n := 9)).1 ?_
  refine callsIn_of_wp_marks Try.func13 rfl trivial ?_ rfl
  simp only [Try.ntmps13, List.size_toArray, List.length_cons, List.length_nil, Nat.reduceAdd, Nat.reduceSub, Array.replicate_succ, Array.replicate_zero, List.push_toArray, List.append_toArray, List.nil_append, List.cons_append]
  gi_wp2_with (first | (refine ⟨trivial, ?_⟩; gi_at_call 55; refine (callsIn_wide.2 (HV.out _)).mono ?_; rintro e w' ⟨rfl, rfl⟩) | (refine ⟨trivial, ?_⟩; gi_at_call 56; refine (lengths_in Fence.wide _ trivial rfl x0 x1 x2 x3 x4 x5 x6 x7 _).mono ?_; rintro e w' ⟨rfl, rfl⟩))
  obtain ⟨W0, hW0⟩ : ∃ W0, ((((((w.alloc (.cells #[.int .i32 x0, .int .i32 x1, .int .i32 x2, .int .i32 x3, .int .i32 x4, .int .i32 x5, .int .i32 x6, .int .i32 x7] 23)).alloc (.cells #[.int .i64 p] 2)).alloc (.cells #[.int .i32 0, .int .i32 0, .int .i32 0, .int .i32 0, .int .i32 0, .int .i32 0, .int .i32 0, .int .i32 0] 23)).alloc (.cells #[.int .i32 x0, .int .i32 x1, .int .i32 x2, .int .i32 x3, .int .i32 x4, .int .i32 x5, .int .i32 x6, .int .i32 x7] 23)).alloc (.cells #[.int .i32 0, .int .i32 0, .int .i32 0, .int .i32 0, .int .i32 0, .int .i32 0, .int .i32 0, .int .i32 0] 23)).alloc (.cells #[.int .i32 x0, .int .i32 x1, .int .i32 x2, .int .i32 x3, .int .i32 x4, .int .i32 x5, .int .i32 x6, .int .i32 x7] 23)) = W0 := ⟨_, rfl⟩
  have hs0 : W0.heap.size = w.heap.size + 6 := by rw [← hW0]; simp
  have hB0 : Below w.heap.size w W0 := by rw [← hW0]; go_grown
  have hI0 : WashI (w.heap.size + 1 + 1 + 1 + 1) (w.heap.size + 1 + 1) (w.heap.size + 1) (z8 x0 x1 x2 x3 x4 x5 x6 x7) p [] W0 := by
    rw [← hW0]
    refine ⟨fun i hi => ?_, fun i hi => ?_, by simp [go_sem]⟩
    · match i, hi with
      | 0, _ => simp [go_sem, outV]
      | 1, _ => simp [go_sem, outV]
      | 2, _ => simp [go_sem, outV]
      | 3, _ => simp [go_sem, outV]
      | 4, _ => simp [go_sem, outV]
      | 5, _ => simp [go_sem, outV]
      | 6, _ => simp [go_sem, outV]
      | 7, _ => simp [go_sem, outV]
      | i + 8, hi => omega
    · match i, hi with
      | 0, _ => simp [go_sem]
      | 1, _ => simp [go_sem]
      | 2, _ => simp [go_sem]
      | 3, _ => simp [go_sem]
      | 4, _ => simp [go_sem]
      | 5, _ => simp [go_sem]
      | 6, _ => simp [go_sem]
      | 7, _ => simp [go_sem]
      | i + 8, hi => omega
  have hH0 : HeapAt W0 (w.heap.size + 1 + 1 + 1 + 1 + 1) 0 (z8 x0 x1 x2 x3 x4 x5 x6 x7) := by
    rw [← hW0]
    have := heapAt_alloc (((((w.alloc (.cells #[.int .i32 x0, .int .i32 x1, .int .i32 x2, .int .i32 x3, .int .i32 x4, .int .i32 x5, .int .i32 x6, .int .i32 x7] 23)).alloc (.cells #[.int .i64 p] 2)).alloc (.cells #[.int .i32 0, .int .i32 0, .int .i32 0, .int .i32 0, .int .i32 0, .int .i32 0, .int .i32 0, .int .i32 0] 23)).alloc (.cells #[.int .i32 x0, .int .i32 x1, .int .i32 x2, .int .i32 x3, .int .i32 x4, .int .i32 x5, .int .i32 x6, .int .i32 x7] 23)).alloc (.cells #[.int .i32 0, .int .i32 0, .int .i32 0, .int .i32 0, .int .i32 0, .int .i32 0, .int .i32 0, .int .i32 0] 23)) x0 x1 x2 x3 x4 x5 x6 x7 23
    simpa only [World.size_alloc] using this
  have hzb : bd32 (z8 x0 x1 x2 x3 x4 x5 x6 x7) := by
    have bx := ok8_of HO.out
    exact bd32_z8 (by unfold in32; omega) (by unfold in32; omega) (by unfold in32; omega) (by unfold in32; omega) (by unfold in32; omega) (by unfold in32; omega) (by unfold in32; omega) (by unfold in32; omega)
  have HG := Lib.hid (okH_of HO.out)
  rw [hW0]
  have hseq := lengths_stops Fence.wide (9 - 1) trivial rfl (by omega) (w.heap.size + 1 + 1 + 1 + 1 + 1) x0 x1 x2 x3 x4 x5 x6 x7 hzb (fun _ _ => True) W0 (by omega) hH0
  clear hW0 hH0
  obtain ⟨z, hzz⟩ : ∃ z, z8 x0 x1 x2 x3 x4 x5 x6 x7 = z := ⟨_, rfl⟩
  rw [hzz] at HG hI0 hseq
  have HZZ := Lib.hid hzz
  clear hzz hzb
  refine wpIn_rangeFunc_ownG rfl (by omega) (gf := 102) (lb := #[.pointer (some ⟨w.heap.size + 1 + 1 + 1 + 1 + 1, 0, none⟩)]) rfl trivial (enters_of Try.func102 (by kernel_rfl) rfl)
    hseq (fun _ _ => trivial) (fun _ _ _ _ _ _ _ _ => trivial) (Below.refl _ _) (fun _ => rfl)
    (fun pre W => WashI (w.heap.size + 1 + 1 + 1 + 1) (w.heap.size + 1 + 1) (w.heap.size + 1) z p pre W ∧ Below w.heap.size w W)
    (fun _ _ _ => False)
    (OwnFrom.and (Own.from (washI_own _ _ _ _ _) _) (ownFrom_below (Nat.le_refl _) (by omega)))
    (fun _ _ _ _ _ hs _ _ => hs)
    ⟨hI0, hB0⟩
    (fun i => { tmps := #[.agg #[.int .i32 x0, .int .i32 x1, .int .i32 x2, .int .i32 x3, .int .i32 x4, .int .i32 x5, .int .i32 x6, .int .i32 x7], .int .i64 p, .pointer (some ⟨w.heap.size, 0, none⟩), .pointer (some ⟨w.heap.size + 1, 0, none⟩), .pointer (some ⟨w.heap.size + 1 + 1, 0, none⟩), .int .i64 0, .pointer (some ⟨w.heap.size + 1 + 1 + 1 + 1, 0, none⟩), .int .i64 (i.val : Int), .int .i64 (z i.val), .agg #[.int .i32 x0, .int .i32 x1, .int .i32 x2, .int .i32 x3, .int .i32 x4, .int .i32 x5, .int .i32 x6, .int .i32 x7], .bool true, .bool false, undef, .int .i64 p, .bool false, .bool false, .int .i64 p, .bool false, .bool false, undef, .agg #[.int .i32 x0, .int .i32 x1, .int .i32 x2, .int .i32 x3, .int .i32 x4, .int .i32 x5, .int .i32 x6, .int .i32 x7], .func (.func 102) #[] #[.pointer (some ⟨w.heap.size + 1 + 1 + 1 + 1 + 1, 0, none⟩)], .int .i64 (i.val : Int), .int .i64 (z i.val), undef, undef, undef, undef, undef, undef, undef, undef, undef], defers := [] }) ?assign ?body ?done ?stop
  case assign =>
    intro l x W K hK
    dsimp only [pairV]
    gi_wp2
    exact hK
  case body =>
    rintro l pre x W ⟨hI, hB⟩ hlen
    have hlt : (x.val : Int) < 8 := by have := x.isLt; omega
    have hc := (hI.1 x.val x.isLt).1
    have hf := (hI.1 x.val x.isLt).2
    have hp := hI.2.2
    have hg := HG.out x.val x.isLt
    have hm := wash_bd hg h0 h1
    have HI := Lib.hid hI
    clear hI
    gi_wp2
    exact ⟨(KeepsOthers.setCell _ _ _).from _, trivial, washI_step HI.out x (by omega) (by omega), hB.setCell (p := ⟨w.heap.size + 1 + 1 + 1 + 1, x.val, none⟩) (by show w.heap.size ≤ w.heap.size + 1 + 1 + 1 + 1; omega) _⟩
  case done =>
    rintro D ys W hD rfl ⟨hI, hB⟩ hK
    have c0 : W.cell? ⟨w.heap.size + 1 + 1 + 1 + 1, 0, none⟩ = some (.int .i32 (x0 * (100 - p) / 100)) := by
      have := (hI.1 0 (by omega)).1
      rw [outV_all z p 0 (by omega), ← HZZ.out] at this
      exact this
    have e0 := (hI.2.1 0 (by omega)).1
    have f0 := (hI.2.1 0 (by omega)).2
    have c1 : W.cell? ⟨w.heap.size + 1 + 1 + 1 + 1, 1, none⟩ = some (.int .i32 (x1 * (100 - p) / 100)) := by
      have := (hI.1 1 (by omega)).1
      rw [outV_all z p 1 (by omega), ← HZZ.out] at this
      exact this
    have e1 := (hI.2.1 1 (by omega)).1
    have f1 := (hI.2.1 1 (by omega)).2
    have c2 : W.cell? ⟨w.heap.size + 1 + 1 + 1 + 1, 2, none⟩ = some (.int .i32 (x2 * (100 - p) / 100)) := by
      have := (hI.1 2 (by omega)).1
      rw [outV_all z p 2 (by omega), ← HZZ.out] at this
      exact this
    have e2 := (hI.2.1 2 (by omega)).1
    have f2 := (hI.2.1 2 (by omega)).2
    have c3 : W.cell? ⟨w.heap.size + 1 + 1 + 1 + 1, 3, none⟩ = some (.int .i32 (x3 * (100 - p) / 100)) := by
      have := (hI.1 3 (by omega)).1
      rw [outV_all z p 3 (by omega), ← HZZ.out] at this
      exact this
    have e3 := (hI.2.1 3 (by omega)).1
    have f3 := (hI.2.1 3 (by omega)).2
    have c4 : W.cell? ⟨w.heap.size + 1 + 1 + 1 + 1, 4, none⟩ = some (.int .i32 (x4 * (100 - p) / 100)) := by
      have := (hI.1 4 (by omega)).1
      rw [outV_all z p 4 (by omega), ← HZZ.out] at this
      exact this
    have e4 := (hI.2.1 4 (by omega)).1
    have f4 := (hI.2.1 4 (by omega)).2
    have c5 : W.cell? ⟨w.heap.size + 1 + 1 + 1 + 1, 5, none⟩ = some (.int .i32 (x5 * (100 - p) / 100)) := by
      have := (hI.1 5 (by omega)).1
      rw [outV_all z p 5 (by omega), ← HZZ.out] at this
      exact this
    have e5 := (hI.2.1 5 (by omega)).1
    have f5 := (hI.2.1 5 (by omega)).2
    have c6 : W.cell? ⟨w.heap.size + 1 + 1 + 1 + 1, 6, none⟩ = some (.int .i32 (x6 * (100 - p) / 100)) := by
      have := (hI.1 6 (by omega)).1
      rw [outV_all z p 6 (by omega), ← HZZ.out] at this
      exact this
    have e6 := (hI.2.1 6 (by omega)).1
    have f6 := (hI.2.1 6 (by omega)).2
    have c7 : W.cell? ⟨w.heap.size + 1 + 1 + 1 + 1, 7, none⟩ = some (.int .i32 (x7 * (100 - p) / 100)) := by
      have := (hI.1 7 (by omega)).1
      rw [outV_all z p 7 (by omega), ← HZZ.out] at this
      exact this
    have e7 := (hI.2.1 7 (by omega)).1
    have f7 := (hI.2.1 7 (by omega)).2
    have HI := Lib.hid hI
    clear hI
    have hcs := set8_cells W (w.heap.size + 1 + 1) (.int .i32 (x0 * (100 - p) / 100)) (.int .i32 (x1 * (100 - p) / 100)) (.int .i32 (x2 * (100 - p) / 100)) (.int .i32 (x3 * (100 - p) / 100)) (.int .i32 (x4 * (100 - p) / 100)) (.int .i32 (x5 * (100 - p) / 100)) (.int .i32 (x6 * (100 - p) / 100)) (.int .i32 (x7 * (100 - p) / 100)) (fun i hi => by rw [(HI.out.2.1 i hi).1]; rfl)
    have hK' := (set8_keeps W (w.heap.size + 1 + 1) (.int .i32 (x0 * (100 - p) / 100)) (.int .i32 (x1 * (100 - p) / 100)) (.int .i32 (x2 * (100 - p) / 100)) (.int .i32 (x3 * (100 - p) / 100)) (.int .i32 (x4 * (100 - p) / 100)) (.int .i32 (x5 * (100 - p) / 100)) (.int .i32 (x6 * (100 - p) / 100)) (.int .i32 (x7 * (100 - p) / 100))).same D _ hK rfl
    have hB9 := hB.trans (set8_below (B := w.heap.size) W (w.heap.size + 1 + 1) (.int .i32 (x0 * (100 - p) / 100)) (.int .i32 (x1 * (100 - p) / 100)) (.int .i32 (x2 * (100 - p) / 100)) (.int .i32 (x3 * (100 - p) / 100)) (.int .i32 (x4 * (100 - p) / 100)) (.int .i32 (x5 * (100 - p) / 100)) (.int .i32 (x6 * (100 - p) / 100)) (.int .i32 (x7 * (100 - p) / 100)) (by omega))
    have HCS := Lib.hid hcs
    have HK' := Lib.hid hK'
    have HB9 := Lib.hid hB9
    clear hcs hK' hB9
    gi_wp2
    refine ⟨by simp, .inl ⟨_, _, rfl, run_takeDeferred HK'.out, ?_⟩⟩
    have hg9 := grownBy_putObj' (set8 W (w.heap.size + 1 + 1) (.int .i32 (x0 * (100 - p) / 100)) (.int .i32 (x1 * (100 - p) / 100)) (.int .i32 (x2 * (100 - p) / 100)) (.int .i32 (x3 * (100 - p) / 100)) (.int .i32 (x4 * (100 - p) / 100)) (.int .i32 (x5 * (100 - p) / 100)) (.int .i32 (x6 * (100 - p) / 100)) (.int .i32 (x7 * (100 - p) / 100))) D (.deferred none)
    have hr9 : ∀ r, some D = some r → ∃ o : Obj, (set8 W (w.heap.size + 1 + 1) (.int .i32 (x0 * (100 - p) / 100)) (.int .i32 (x1 * (100 - p) / 100)) (.int .i32 (x2 * (100 - p) / 100)) (.int .i32 (x3 * (100 - p) / 100)) (.int .i32 (x4 * (100 - p) / 100)) (.int .i32 (x5 * (100 - p) / 100)) (.int .i32 (x6 * (100 - p) / 100)) (.int .i32 (x7 * (100 - p) / 100))).heap[r]? = some o ∧ o.isCells = false := fun r e => by cases e; exact ⟨_, HK'.out, rfl⟩
    obtain ⟨k0, k1, k2, k3, k4, k5, k6, k7⟩ := HCS.out
    have k0 := cell_kept k0 hg9 hr9
    have k1 := cell_kept k1 hg9 hr9
    have k2 := cell_kept k2 hg9 hr9
    have k3 := cell_kept k3 hg9 hr9
    have k4 := cell_kept k4 hg9 hr9
    have k5 := cell_kept k5 hg9 hr9
    have k6 := cell_kept k6 hg9 hr9
    have k7 := cell_kept k7 hg9 hr9
    simp only [set8] at k0 k1 k2 k3 k4 k5 k6 k7
    refine ⟨.tuple #[.agg #[.int .i32 (x0 * (100 - p) / 100), .int .i32 (x1 * (100 - p) / 100), .int .i32 (x2 * (100 - p) / 100), .int .i32 (x3 * (100 - p) / 100), .int .i32 (x4 * (100 - p) / 100), .int .i32 (x5 * (100 - p) / 100), .int .i32 (x6 * (100 - p) / 100), .int .i32 (x7 * (100 - p) / 100)], .int .i64 0], ?_, rfl, HB9.out.trans (belowK_b (w := w) (Nat.le_refl _) _ D _ _ (by omega) HK'.out rfl rfl)⟩
    simp [results, Try.f13, go_sem, k0, k1, k2, k3, k4, k5, k6, k7]
  case stop =>
    rintro D c pre W _ _ h _
    exact h.elim
end Go.Proofs.Ythokpdhknohpoab
