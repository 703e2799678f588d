/-
  No statement is proved here: PartHeap in the program; condition: numbers that are int32s.
-/
import Derived.Test.YtekejhnhkifcfaaPhS
import Derived.Test.YtekejhnhkifcfaaLengths
import Derived.Test.YtekejhnhkifcfaaRoundStill
import Derived.IntWalk
namespace Go.Proofs.Ytekejhnhkifcfaa
open Go.ChangeShapes Go.WideShapes Go.ChangeAt Go.RowKit Go.Shelf

attribute [local go_sem] Oper.semAt_some

/-- The parts as a list, told by a table. -/
def tabL (n : Nat) (R : Nat → Nat → Int) : List (Nat → Int) := (List.range n).map R
theorem tabL_length (n : Nat) (R : Nat → Nat → Int) : (tabL n R).length = n := by simp [tabL]
theorem tabL_at (n : Nat) (R : Nat → Nat → Int) {i : Nat} (h : i < n) : atHp (tabL n R) i = R i := by simp [atHp, tabL, List.getD, h]
theorem tab_get (n : Nat) (R : Nat → Nat → Int) {i j : Nat} (hi : i < n) (hj : j < 8) : (cellsHp (tabL n R))[i * 8 + j]? = some (.int .i32 (R i j)) := by
  have h := cellsHp_get (tabL n R) i (by rw [tabL_length]; exact hi)
  rw [tabL_at n R hi] at h
  obtain ⟨h0, h1, h2, h3, h4, h5, h6, h7⟩ := h
  match j, hj with
  | 0, _ => exact h0
  | 1, _ => exact h1
  | 2, _ => exact h2
  | 3, _ => exact h3
  | 4, _ => exact h4
  | 5, _ => exact h5
  | 6, _ => exact h6
  | 7, _ => exact h7
  | j + 8, h => omega
theorem tab_set {n : Nat} {R S : Nat → Nat → Int} {a b : Nat} (ha : a < n) (hb : b < 8) (e : ∀ i j, i < n → j < 8 → ¬ (i = a ∧ j = b) → R i j = S i j) {v : Int} (hv : v = S a b) :
    (cellsHp (tabL n R)).set (a * 8 + b) (.int .i32 v) = cellsHp (tabL n S) := by
  apply List.ext_getElem?
  intro t
  have lR : (cellsHp (tabL n R)).length = n * 8 := by rw [cellsHp_length, tabL_length]
  have lS : (cellsHp (tabL n S)).length = n * 8 := by rw [cellsHp_length, tabL_length]
  by_cases ht : t < n * 8
  · obtain ⟨i, j, hj, rfl⟩ : ∃ i j, j < 8 ∧ t = i * 8 + j := ⟨t / 8, t % 8, by omega, by omega⟩
    have hi : i < n := by omega
    rw [tab_get n S hi hj, List.getElem?_set]
    by_cases h : a * 8 + b = i * 8 + j
    · rw [if_pos h, if_pos (by rw [lR]; omega)]
      have h1 : i = a := by omega
      have h2 : j = b := by omega
      subst h1 h2
      rw [hv]
    · rw [if_neg h, tab_get n R hi hj, e i j hi hj (by rintro ⟨rfl, rfl⟩; exact h rfl)]
  · rw [List.getElem?_eq_none (by rw [List.length_set, lR]; omega), List.getElem?_eq_none (by rw [lS]; omega)]
theorem tab_congr {n : Nat} {R S : Nat → Nat → Int} (e : ∀ i j, i < n → j < 8 → R i j = S i j) : cellsHp (tabL n R) = cellsHp (tabL n S) := by
  apply List.ext_getElem?
  intro t
  by_cases ht : t < n * 8
  · obtain ⟨i, j, hj, rfl⟩ : ∃ i j, j < 8 ∧ t = i * 8 + j := ⟨t / 8, t % 8, by omega, by omega⟩
    rw [tab_get n R (by omega) hj, tab_get n S (by omega) hj, e i j (by omega) hj]
  · rw [List.getElem?_eq_none (by rw [cellsHp_length, tabL_length]; omega), List.getElem?_eq_none (by rw [cellsHp_length, tabL_length]; omega)]
/-- The parts when some lengths have been gone through; and when of the next one some parts have been. -/
def phP (z : Nat → Int) (h : Int) (pre : List (Fin 8)) (i j : Nat) : Int := if (∃ x ∈ pre, (x : Fin 8).val = j) then partH z h i j else 0
def phQ (z : Nat → Int) (h : Int) (pre : List (Fin 8)) (x m i j : Nat) : Int := if j = x ∧ i < m then partH z h i j else phP z h pre i j
theorem phQ_zero (z : Nat → Int) (h : Int) (pre : List (Fin 8)) (x i j : Nat) : phP z h pre i j = phQ z h pre x 0 i j := by unfold phQ; rw [if_neg (by omega)]
theorem phQ_all (z : Nat → Int) (h : Int) (pre : List (Fin 8)) (x : Fin 8) {n i j : Nat} (hi : i < n) : phQ z h pre x.val n i j = phP z h (pre ++ [x]) i j := by
  unfold phQ phP
  by_cases hj : j = x.val
  · rw [if_pos ⟨hj, hi⟩, if_pos ⟨x, by simp, hj.symm⟩]
  · rw [if_neg (fun e => hj e.1)]
    by_cases hm : ∃ y ∈ pre, (y : Fin 8).val = j
    · rw [if_pos hm, if_pos (by obtain ⟨y, hy, e⟩ := hm; exact ⟨y, List.mem_append_left _ hy, e⟩)]
    · rw [if_neg hm, if_neg]
      rintro ⟨y, hy, e⟩
      rcases List.mem_append.1 hy with hy | hy
      · exact hm ⟨y, hy, e⟩
      · rw [List.mem_singleton] at hy
        exact hj (by rw [← e, hy])
theorem phQ_other (z : Nat → Int) (h : Int) (pre : List (Fin 8)) {x m i j : Nat} (e : ¬ (i = m ∧ j = x)) : phQ z h pre x m i j = phQ z h pre x (m + 1) i j := by
  unfold phQ
  by_cases h1 : j = x ∧ i < m
  · rw [if_pos h1, if_pos ⟨h1.1, by omega⟩]
  · rw [if_neg h1, if_neg (by rintro ⟨rfl, h2⟩; exact h1 ⟨rfl, by omega⟩)]
theorem phQ_new (z : Nat → Int) (h : Int) (pre : List (Fin 8)) (x m : Nat) : phQ z h pre x (m + 1) m x = partH z h m x := by unfold phQ; rw [if_pos ⟨rfl, by omega⟩]
theorem phP_all (z : Nat → Int) {h : Int} {i j : Nat} (hj : j < 8) : phP z h (nz z 8) i j = partH z h i j := by
  unfold phP
  by_cases hz : z j = 0
  · rw [if_neg]
    · unfold partH
      rw [hz, Int.zero_ediv, Int.zero_emod, if_neg (by omega)]
      rfl
    · rintro ⟨x, hx, rfl⟩
      exact ((mem_nz z x 8 (Nat.le_refl _)).1 hx).2 hz
  · rw [if_pos ⟨⟨j, hj⟩, (mem_nz z ⟨j, hj⟩ 8 (Nat.le_refl _)).2 ⟨hj, hz⟩, rfl⟩]

theorem lengths_at2 (x0 x1 x2 x3 x4 x5 x6 x7 : Int) (w : World) : Calls Try.prog 38 #[.agg #[.int .i32 x0, .int .i32 x1, .int .i32 x2, .int .i32 x3, .int .i32 x4, .int .i32 x5, .int .i32 x6, .int .i32 x7]] w fun e w' => e = .returned (.func (.func 58) #[] #[.pointer (some ⟨w.heap.size, 0, none⟩)]) ∧ w.alloc (.cells #[.int .i32 x0, .int .i32 x1, .int .i32 x2, .int .i32 x3, .int .i32 x4, .int .i32 x5, .int .i32 x6, .int .i32 x7] 23) = w' :=
  ((callsIn_wide (n := 9)).1 (lengths_in Fence.wide 9 trivial rfl x0 x1 x2 x3 x4 x5 x6 x7 w)).mono fun _ _ ⟨he, hw⟩ => ⟨he, hw.symm⟩

theorem row_lower {w : World} {base base' : Nat} {e : TypeId} {size : Nat} {v : Value} {n : Nat} {xs : List Value} (h : w.ownsRow base e size v n xs) (hb : base' ≤ base) : w.ownsRow base' e size v n xs := by
  obtain ⟨h0, h⟩ := h
  refine ⟨h0, ?_⟩
  rcases h with h | ⟨g, cap, cur, hv, hg, hh⟩
  · exact .inl h
  · exact .inr ⟨g, cap, cur, hv, by omega, hh⟩
/-- Between two lengths: the box of how many there are, the box of the parts' slice, the parts. -/
def PhR (w : World) (n rb : Nat) (R : Nat → Nat → Int) (W : World) : Prop := (W.cell? ⟨w.heap.size + 1, 0, none⟩ = some (.int .i64 (n : Int)) ∧ W.cell? ⟨rb + 1, 0, none⟩ = some (.slice (some ⟨rb, 0, none⟩) n n)) ∧ W.ownsRow rb 23 8 (.slice (some ⟨rb, 0, none⟩) n n) n (cellsHp (tabL n R)) ∧ Below w.heap.size w W
theorem phR_own {β : Type} (w : World) (n rb : Nat) (R : β → Nat → Nat → Int) {C : Nat} (hC : w.heap.size ≤ C) (hb : rb < C) : OwnFrom C (fun s => PhR w n rb (R s)) := fun s W W' row hs hg hr => by
  have hr2 : ∀ r, row = some r → ∃ o : Obj, W.heap[r]? = some o ∧ o.isCells = false := fun r e => (hr r e).2
  obtain ⟨⟨h1, h2⟩, h3, h4⟩ := hs
  exact ⟨⟨cell_kept h1 hg hr2, cell_kept h2 hg hr2⟩, h3.kept hg (.inr fun e => by have := (hr rb e.symm).1; omega), ownFrom_below (n₀ := w.heap.size) (w₀ := w) (Nat.le_refl _) hC s W W' row h4 hg hr⟩
theorem PhR.drew {w : World} {n rb : Nat} {R : Nat → Nat → Int} {W : World} (h : PhR w n rb R W) : PhR w n rb R W.drew := ⟨⟨h.1.1, h.1.2⟩, h.2.1.drew, h.2.2.drew⟩
theorem PhR.put {w : World} {n rb : Nat} {R S : Nat → Nat → Int} {W : World} (h : PhR w n rb R W) {a b : Nat} (ha : a < n) (hb : b < 8) (e : ∀ i j, i < n → j < 8 → ¬ (i = a ∧ j = b) → R i j = S i j) {v : Int} (hv : v = S a b) (hw : w.heap.size + 1 < rb) : PhR w n rb S (W.setCell ⟨rb, a * 8 + b, none⟩ (.int .i32 v)) := by
  obtain ⟨⟨h1, h2⟩, h3, h4⟩ := h
  refine ⟨⟨(World.cell?_setCell_other _ _ _ _ (by intro e; have := congrArg Addr.block e; simp only at this; omega)).trans h1, (World.cell?_setCell_other _ _ _ _ (by intro e; have := congrArg Addr.block e; simp only at this; omega)).trans h2⟩, ?_, h4.setCell (by show w.heap.size ≤ rb; omega) _⟩
  have := (h3.stored (a * 8 + b) (.int .i32 v)).1
  rw [tab_set ha hb e hv] at this
  exact this

set_option maxRecDepth 100000 in
theorem make_parts (n : Nat) (h : n ≤ 1000) : ∃ R : Array Value, (∀ wx : World, (Instr.makeSlice 29 (.int .i64 (n : Int)) (.int .i64 (n : Int))).run Try.prog wx = .ok (.slice (some ⟨wx.heap.size, 0, none⟩) n n) (wx.alloc (.cells R 23))) ∧
    ∀ wx : World, (wx.alloc (.cells R 23)).ownsRow wx.heap.size 23 8 (.slice (some ⟨wx.heap.size, 0, none⟩) n n) n (cellsHp (tabL n fun _ _ => 0)) := by
  obtain ⟨i0, hi, hz0, hz1, hz2⟩ := info_parts infoHp
  have hrun := fun wx : World => by
    have := run_makeSlice (P := Try.prog) wx 29 23 i0 _ Try.underlying29 hi hz0 .i64 .i64 (n : Int) (n : Int) (by omega) (Int.le_refl _) (by rw [hz1]; simp; omega) (by rw [hz2]; omega) (by omega)
    simpa only [Int.toNat_natCast] using this
  refine ⟨_, hrun, fun wx => ?_⟩
  obtain ⟨w', hr, ho, _⟩ := run_makeSlice_full (P := Try.prog) wx wx.heap.size 29 23 i0 _ 8 Try.underlying29 hi hz0 hz1 .i64 .i64 n (by omega) (by rw [hz2]; omega) (by unfold maxLen; omega) (Nat.le_refl _)
  rw [hrun wx] at hr
  simp only [Result.ok.injEq] at hr
  obtain ⟨_, rfl⟩ := hr
  have e : (madeCells (Value.agg #[.int .i32 0, .int .i32 0, .int .i32 0, .int .i32 0, .int .i32 0, .int .i32 0, .int .i32 0, .int .i32 0]).cells (n * 8)).toList = cellsHp (tabL n fun _ _ => 0) := by
    apply List.ext_getElem?
    intro t
    by_cases ht : t < n * 8
    · obtain ⟨i, j, hj, rfl⟩ : ∃ i j, j < 8 ∧ t = i * 8 + j := ⟨t / 8, t % 8, by omega, by omega⟩
      rw [tab_get n _ (by omega) hj]
      have hm : (i * 8 + j) % 8 = j := by omega
      show (madeCells #[Value.int .i32 0, .int .i32 0, .int .i32 0, .int .i32 0, .int .i32 0, .int .i32 0, .int .i32 0, .int .i32 0] (n * 8)).toList[i * 8 + j]? = _
      simp only [madeCells, Array.toList_map, Array.toList_range, List.getElem?_map, List.getElem?_range ht, Option.map_some, List.size_toArray, List.length_cons, List.length_nil, Nat.zero_add, Nat.reduceAdd, hm]
      rcases j with _ | _ | _ | _ | _ | _ | _ | _ | j
      all_goals first | rfl | omega
    · rw [List.getElem?_eq_none (by simp [madeCells]; omega), List.getElem?_eq_none (by rw [cellsHp_length, tabL_length]; omega)]
  rw [e] at ho
  exact ho

set_option maxRecDepth 100000 in
set_option maxHeartbeats 8000000 in
theorem implPart_any (x0 x1 x2 x3 x4 x5 x6 x7 h : Int) (w : World) :
    Calls Try.prog 15 #[.agg #[.int .i32 x0, .int .i32 x1, .int .i32 x2, .int .i32 x3, .int .i32 x4, .int .i32 x5, .int .i32 x6, .int .i32 x7], .int .i64 h] w fun e w' => ∃ u, e = .returned (.tuple #[u, .int .i64 (partF (z8 x0 x1 x2 x3 x4 x5 x6 x7) h).2]) ∧ OwnHp w' w.heap.size u (partF (z8 x0 x1 x2 x3 x4 x5 x6 x7) h).1 ∧ Below w.heap.size w w' := by
  obtain ⟨W0, hW0⟩ : ∃ W0, W0 = (w.alloc (.cells #[.int .i32 x0, .int .i32 x1, .int .i32 x2, .int .i32 x3, .int .i32 x4, .int .i32 x5, .int .i32 x6, .int .i32 x7] 23)).alloc (.cells #[.int .i64 h] 2) := ⟨_, rfl⟩
  have hA : HeapAt W0 w.heap.size 0 (z8 x0 x1 x2 x3 x4 x5 x6 x7) := hW0 ▸ (heapAt_alloc w x0 x1 x2 x3 x4 x5 x6 x7 23).below ((Below.refl _ _).alloc (Nat.le_refl _) _) (by simp)
  have b0 : W0.cell? ⟨w.heap.size + 1, 0, none⟩ = some (.int .i64 h) := by rw [hW0]; simp [go_sem]
  have T0 := Lib.hid (show Below w.heap.size w W0 by rw [hW0]; go_grown)
  have HZ0 := Lib.hid (show w.heap.size + 1 < W0.heap.size by rw [hW0]; simp)
  have HV := Lib.hid fun wx => validHeap_any x0 x1 x2 x3 x4 x5 x6 x7 wx
  have HW0 := Lib.hid hW0
  have HA := Lib.hid hA
  have HB0 := Lib.hid b0
  have hm : partF (z8 x0 x1 x2 x3 x4 x5 x6 x7) h = if askC (okH (z8 x0 x1 x2 x3 x4 x5 x6 x7)) (fineP h) = 0 then (partL (z8 x0 x1 x2 x3 x4 x5 x6 x7) h, 0) else ([], askC (okH (z8 x0 x1 x2 x3 x4 x5 x6 x7)) (fineP h)) := rfl
  have c0 : W0.cell? ⟨w.heap.size, 0, none⟩ = some (.int .i32 x0) := by have := hA 0 (by omega); rwa [Nat.zero_add] at this
  have c1 : W0.cell? ⟨w.heap.size, 1, none⟩ = some (.int .i32 x1) := by have := hA 1 (by omega); rwa [Nat.zero_add] at this
  have c2 : W0.cell? ⟨w.heap.size, 2, none⟩ = some (.int .i32 x2) := by have := hA 2 (by omega); rwa [Nat.zero_add] at this
  have c3 : W0.cell? ⟨w.heap.size, 3, none⟩ = some (.int .i32 x3) := by have := hA 3 (by omega); rwa [Nat.zero_add] at this
  have c4 : W0.cell? ⟨w.heap.size, 4, none⟩ = some (.int .i32 x4) := by have := hA 4 (by omega); rwa [Nat.zero_add] at this
  have c5 : W0.cell? ⟨w.heap.size, 5, none⟩ = some (.int .i32 x5) := by have := hA 5 (by omega); rwa [Nat.zero_add] at this
  have c6 : W0.cell? ⟨w.heap.size, 6, none⟩ = some (.int .i32 x6) := by have := hA 6 (by omega); rwa [Nat.zero_add] at this
  have c7 : W0.cell? ⟨w.heap.size, 7, none⟩ = some (.int .i32 x7) := by have := hA 7 (by omega); rwa [Nat.zero_add] at this
  clear hW0 hA b0
  cases hok : okH (z8 x0 x1 x2 x3 x4 x5 x6 x7) with
  | false =>
    rw [hok] at hm HV
    rw [hm, show askC false (fineP h) = 1 from rfl, if_neg (by decide)]
    clear hok hm
    go_enter Try.func15, Try.ntmps15
    go_wp2_with fail
    rw [← HW0.out]
    refine (HV.out _).mono ?_
    rintro e w1 ⟨rfl, hB⟩
    have T1 := Lib.hid (T0.out.trans (hB.mono T0.out.size))
    clear hB c0 c1 c2 c3 c4 c5 c6 c7
    go_wp2_with fail
    go_ret2
    exact ⟨_, rfl, World.ownsRow_nil _ _ _ _, T1.out⟩
  | true =>
    rw [hok] at hm HV
    by_cases hf : 1 ≤ h ∧ h ≤ 20
    · have hfp : fineP h = true := inB_mk hf
      rw [hfp, show askC true true = 0 from rfl, if_pos rfl] at hm
      rw [hm]
      have HOK := Lib.hid hok
      obtain ⟨n, hn⟩ : ∃ n : Nat, (n : Int) = h := ⟨h.toNat, by omega⟩
      subst hn
      obtain ⟨RC, hmk, hrows⟩ := make_parts n (by omega)
      have HRW := Lib.hid hrows
      have hg1 : ¬ (n : Int) < 1 := by omega
      have hg2 : ¬ 20 < (n : Int) := by omega
      have hd1 : decide ((n : Int) < 1) = false := decide_eq_false hg1
      have hd2 : decide (20 < (n : Int)) = false := decide_eq_false hg2
      have HL : Hid (partL (z8 x0 x1 x2 x3 x4 x5 x6 x7) n = tabL n (partH (z8 x0 x1 x2 x3 x4 x5 x6 x7) n)) := Lib.hid (by unfold partL tabL; rw [Int.toNat_natCast])
      clear hrows hm hfp hok
      refine (callsIn_wide (n := 9)).1 ?_
      refine callsIn_of_wp_marks Try.func15 rfl trivial ?_ rfl
      simp only [Try.ntmps15, List.size_toArray, List.length_cons, List.length_nil, Nat.reduceAdd, Nat.reduceSub, Array.replicate_succ, Array.replicate_zero, List.push_toArray, List.append_toArray, List.nil_append, List.cons_append]
      refine wpIn_wide.2 ?_
      go_wp2_with fail
      rw [← HW0.out]
      refine (HV.out _).mono ?_
      rintro e w1 ⟨rfl, hB⟩
      have hA1 := Lib.hid (HA.out.below hB (by have := HZ0.out; omega))
      have b1 := kept hB HZ0.out HB0.out
      have T1 := Lib.hid (T0.out.trans (hB.mono T0.out.size))
      have hz1 := Nat.lt_of_lt_of_le HZ0.out hB.size
      have hz0 : w.heap.size < w1.heap.size := by omega
      clear hB c0 c1 c2 c3 c4 c5 c6 c7
      have c0 : w1.cell? ⟨w.heap.size, 0, none⟩ = some (.int .i32 x0) := by have := hA1.out 0 (by omega); rwa [Nat.zero_add] at this
      have c1 : w1.cell? ⟨w.heap.size, 1, none⟩ = some (.int .i32 x1) := by have := hA1.out 1 (by omega); rwa [Nat.zero_add] at this
      have c2 : w1.cell? ⟨w.heap.size, 2, none⟩ = some (.int .i32 x2) := by have := hA1.out 2 (by omega); rwa [Nat.zero_add] at this
      have c3 : w1.cell? ⟨w.heap.size, 3, none⟩ = some (.int .i32 x3) := by have := hA1.out 3 (by omega); rwa [Nat.zero_add] at this
      have c4 : w1.cell? ⟨w.heap.size, 4, none⟩ = some (.int .i32 x4) := by have := hA1.out 4 (by omega); rwa [Nat.zero_add] at this
      have c5 : w1.cell? ⟨w.heap.size, 5, none⟩ = some (.int .i32 x5) := by have := hA1.out 5 (by omega); rwa [Nat.zero_add] at this
      have c6 : w1.cell? ⟨w.heap.size, 6, none⟩ = some (.int .i32 x6) := by have := hA1.out 6 (by omega); rwa [Nat.zero_add] at this
      have c7 : w1.cell? ⟨w.heap.size, 7, none⟩ = some (.int .i32 x7) := by have := hA1.out 7 (by omega); rwa [Nat.zero_add] at this
      go_wp2_with fail
      refine (lengths_at2 x0 x1 x2 x3 x4 x5 x6 x7 _).mono ?_
      rintro e w2 ⟨rfl, hw2⟩
      have hs2 : w2.heap.size = w1.heap.size + 3 := by rw [← hw2]; simp
      have hB2 : Below w1.heap.size w1 w2 := by rw [← hw2]; go_grown
      have hH2 : HeapAt w2 (w1.heap.size + 1 + 1) 0 (z8 x0 x1 x2 x3 x4 x5 x6 x7) := by
        rw [← hw2]
        have := heapAt_alloc ((w1.alloc (.cells RC 23)).alloc (.cells #[.slice (some ⟨w1.heap.size, 0, none⟩) n n] 29)) x0 x1 x2 x3 x4 x5 x6 x7 23
        rw [World.size_alloc, World.size_alloc] at this
        exact this
      have hww := T1.out.size
      have hR0 : PhR w n w1.heap.size (phP (z8 x0 x1 x2 x3 x4 x5 x6 x7) n []) w2 := by
        refine ⟨⟨kept hB2 hz1 b1, by rw [← hw2]; simp [go_sem]⟩, ?_, T1.out.trans (hB2.mono hww)⟩
        have h := HRW.out w1
        rw [tab_congr (S := phP (z8 x0 x1 x2 x3 x4 x5 x6 x7) n []) (fun i j _ _ => by unfold phP; rw [if_neg (by simp)])] at h
        rw [← hw2]
        exact rowH_below (rowH_below h ((Below.refl _ _).alloc (Nat.le_refl _) _)) ((Below.refl _ _).alloc (Nat.le_refl _) _)
      have hok8 := okH_of HOK.out
      have h32 : ∀ j, j < 8 → in32 ((z8 x0 x1 x2 x3 x4 x5 x6 x7) j) := fun j hj => by have := hok8 j hj; unfold in32; omega
      have hseq := lengths_stops Fence.wide (9 - 1) trivial rfl (by omega) (w1.heap.size + 1 + 1) x0 x1 x2 x3 x4 x5 x6 x7 (bd32_z8 (h32 0 (by omega)) (h32 1 (by omega)) (h32 2 (by omega)) (h32 3 (by omega)) (h32 4 (by omega)) (h32 5 (by omega)) (h32 6 (by omega)) (h32 7 (by omega))) (fun _ _ => True) w2 (by omega) hH2
      have HR0 := Lib.hid hR0
      have HOK8 := Lib.hid hok8
      clear hw2 hH2 hR0 b1 hmk h32 hok8 c0 c1 c2 c3 c4 c5 c6 c7
      go_wp2_with fail
      refine (wpIn_wide (n := 9)).1 ?_
      refine wpIn_rangeFunc_ownG (n := 9) rfl (by omega) (gf := 58) (lb := #[.pointer (some ⟨w1.heap.size + 1 + 1, 0, none⟩)]) rfl trivial (enters_of Try.func58 (by kernel_rfl) rfl)
        hseq (fun _ _ => trivial) (fun _ _ _ _ _ _ _ _ => trivial) (Below.refl _ _) (fun _ => rfl)
        (fun pre => PhR w n w1.heap.size (phP (z8 x0 x1 x2 x3 x4 x5 x6 x7) n pre))
        (fun _ _ _ => False)
        (phR_own w n w1.heap.size _ (by omega) (by omega))
        (fun c s W W' row hs hgr hr => hs)
        HR0.out
        (fun i => { tmps := #[.agg #[.int .i32 x0, .int .i32 x1, .int .i32 x2, .int .i32 x3, .int .i32 x4, .int .i32 x5, .int .i32 x6, .int .i32 x7], .int .i64 (n : Int), .pointer (some ⟨w.heap.size, 0, none⟩), .pointer (some ⟨w.heap.size + 1, 0, none⟩), .slice none 0 0, .int .i64 0, .pointer (some ⟨w1.heap.size + 1, 0, none⟩), .int .i64 (i.val : Int), .int .i64 ((z8 x0 x1 x2 x3 x4 x5 x6 x7) i.val), undef, undef, undef, .agg #[.int .i32 x0, .int .i32 x1, .int .i32 x2, .int .i32 x3, .int .i32 x4, .int .i32 x5, .int .i32 x6, .int .i32 x7], .bool true, .bool false, .int .i64 (n : Int), .bool false, .bool false, .int .i64 (n : Int), .bool false, .bool false, .int .i64 (n : Int), .slice (some ⟨w1.heap.size, 0, none⟩) n n, .agg #[.int .i32 x0, .int .i32 x1, .int .i32 x2, .int .i32 x3, .int .i32 x4, .int .i32 x5, .int .i32 x6, .int .i32 x7], .func (.func 58) #[] #[.pointer (some ⟨w1.heap.size + 1 + 1, 0, none⟩)], .int .i64 (i.val : Int), .int .i64 ((z8 x0 x1 x2 x3 x4 x5 x6 x7) i.val), undef, undef, undef, undef, undef, undef, undef, undef, undef, undef, undef, undef, undef, undef, undef, undef, undef, undef, undef, undef, undef, undef, undef, undef, undef, undef, undef, undef, undef, undef, undef, undef], defers := [] }) ?assign ?body ?done ?stop
      case assign =>
        intro l x W K hK
        dsimp only [pairV]
        gi_wp2
        exact hK
      case body =>
        rintro l pre x X hR hlen
        have hx : x.val < 8 := x.isLt
        have hzb := HOK8.out x.val hx
        have HP0 := Lib.hid hR
        obtain ⟨⟨d1, d2⟩, _, _⟩ := hR
        have HB1 := Lib.hid fun k => partH_bd HOK.out hf.1 k hx
        have HDF : Hid (∀ k : Nat, partH (z8 x0 x1 x2 x3 x4 x5 x6 x7) n k x.val = (z8 x0 x1 x2 x3 x4 x5 x6 x7) x.val / (n : Int) + if (k : Int) < (z8 x0 x1 x2 x3 x4 x5 x6 x7) x.val % (n : Int) then 1 else 0) := Lib.hid fun _ => rfl
        obtain ⟨y, hy⟩ : ∃ y, (z8 x0 x1 x2 x3 x4 x5 x6 x7) x.val = y := ⟨_, rfl⟩
        rw [hy] at hzb HDF ⊢
        clear hy
        have q0 : 0 ≤ y / (n : Int) := Int.ediv_nonneg hzb.1 (by omega)
        have q1 : y / (n : Int) ≤ y := Int.ediv_le_self _ hzb.1
        have m0 : 0 ≤ y % (n : Int) := Int.emod_nonneg _ (by omega)
        have m1 : y % (n : Int) < (n : Int) := Int.emod_lt_of_pos _ (by omega)
        have hn0 : ¬ (n : Int) = 0 := by omega
        have hn1 : 0 < (n : Int) := by omega
        have t1 : y.tdiv (n : Int) = y / (n : Int) := Int.tdiv_eq_ediv_of_nonneg hzb.1
        have t2 : y.tmod (n : Int) = y % (n : Int) := Int.tmod_eq_emod_of_nonneg hzb.1
        have hn2 : ¬ n = 0 := by omega
        have t3 : IntKind.i64.wrap (y / (n : Int)) = y / (n : Int) := IntWalk.i64_in _ (by omega)
        have t4 : IntKind.i64.wrap (y % (n : Int)) = y % (n : Int) := IntWalk.i64_in _ (by omega)
        gi_wp2_with fail
        refine in_region_still (by kernel_rfl) (by kernel_rfl) (by kernel_rfl) (fun ⟨_, _, h⟩ => h) ?_
        repeat still_step
        refine wpStill_nil ?_
        gi_wp2_with fail
        have HPQ := Lib.hid fun (m i j : Nat) (h : ¬ (i = m ∧ j = x.val)) => phQ_other (z8 x0 x1 x2 x3 x4 x5 x6 x7) (n : Int) pre h
        have HPN := Lib.hid (phQ_new (z8 x0 x1 x2 x3 x4 x5 x6 x7) (n : Int) pre x.val)
        have HPA := Lib.hid fun i (hi : i < n) (j : Nat) => phQ_all (z8 x0 x1 x2 x3 x4 x5 x6 x7) (n : Int) pre x (j := j) hi
        have P0 : Hid (PhR w n w1.heap.size (phQ (z8 x0 x1 x2 x3 x4 x5 x6 x7) n pre x.val 0) X.drew) := Lib.hid (by
          have h := HP0.out.drew
          refine ⟨h.1, ?_, h.2.2⟩
          have h2 := h.2.1
          rw [tab_congr (S := phQ (z8 x0 x1 x2 x3 x4 x5 x6 x7) n pre x.val 0) (fun i j _ _ => phQ_zero _ _ _ _ i j)] at h2
          exact h2)
        have KX : KeepsOthers X X.drew := ⟨Nat.le_refl _, fun _ _ h _ => h⟩
        have KX0 := Lib.hid KX
        clear d1 d2 KX
        gi_loopw [35] (fun i wr => ∃ m : Nat, m ≤ n ∧ i = .int .i64 m ∧ Hid (PhR w n w1.heap.size (phQ (z8 x0 x1 x2 x3 x4 x5 x6 x7) n pre x.val m) wr) ∧ Hid (KeepsOthers X wr)) (fun i _ => n - (intOf i).toNat)
        case atStart => exact ⟨0, Nat.zero_le _, rfl, P0, KX0⟩
        case round =>
          clear P0 KX0
          obtain ⟨m, hm, rfl, hP, hKX⟩ := hrel
          by_cases hlt : m < n
          · have d2 := hP.out.1.2
            have hcx : m * 8 + x.val < n * 8 := by omega
            have cx := (hP.out.2.1.cellAt (m * 8 + x.val) hcx).trans (tab_get n _ hlt hx)
            have fx := hP.out.2.1.frozenAt (m * 8 + x.val)
            have hdf := HDF.out m
            have hbd := HB1.out m
            have hpn := HPN.out m
            have hmI : (m : Int) < (n : Int) := by omega
            have hxI : (x.val : Int) < 8 := by omega
            have t5 : IntKind.i32.wrap (y / (n : Int)) = y / (n : Int) := IntWalk.i32_in _ (by omega)
            by_cases hover : (m : Int) < y % (n : Int)
            · rw [if_pos hover] at hdf
              obtain ⟨X2, hX2⟩ : ∃ X2, X2 = wr.setCell ⟨w1.heap.size, m * 8 + x.val, none⟩ (.int .i32 (y / (n : Int))) := ⟨_, rfl⟩
              have P2 : PhR w n w1.heap.size (fun i j => if i = m ∧ j = x.val then y / (n : Int) else phQ (z8 x0 x1 x2 x3 x4 x5 x6 x7) n pre x.val m i j) X2 := by
                rw [hX2]
                exact hP.out.put hlt hx (fun i j _ _ h => (if_neg h).symm) (if_pos ⟨rfl, rfl⟩).symm (by omega)
              have K2 := Lib.hid (hKX.out.trans (hX2 ▸ KeepsOthers.setCell _ _ _ : KeepsOthers wr X2))
              have e1 : X2.cell? ⟨w1.heap.size, m * 8 + x.val, none⟩ = some (.int .i32 (y / (n : Int))) := by rw [hX2]; exact World.cell?_setCell_same _ _ _ cx
              have e2 := P2.1.2
              have e3 : X2.frozen? ⟨w1.heap.size, m * 8 + x.val, none⟩ = false := P2.2.1.frozenAt _
              have P3 := Lib.hid (PhR.drew (P2.put (S := phQ (z8 x0 x1 x2 x3 x4 x5 x6 x7) n pre x.val (m + 1)) (v := y / (n : Int) + 1) hlt hx (fun i j _ _ h => by rw [if_neg h]; exact HPQ.out _ _ _ h) (by rw [hpn, hdf]) (by omega)))
              have HX2 := Lib.hid hX2
              have t6 : IntKind.i32.wrap (y / (n : Int) + 1) = y / (n : Int) + 1 := IntWalk.i32_in _ (by omega)
              clear hX2 P2 hdf hbd hpn
              gi_wp2_with fail
              rw [← HX2.out]
              gi_wp2_with fail
              refine in_region_still_tail 9 (by kernel_rfl) (by kernel_rfl) (by kernel_rfl) (fun ⟨_, _, h⟩ => h) ?_
              simp only [List.take_succ_cons, List.take_zero, List.drop_succ_cons, List.drop_zero]
              repeat still_step
              refine wpStill_nil ?_
              iterate 4 go_step
              gi_wp2_with fail
              go_roundw
              case rel => exact ⟨m + 1, by omega, by go_num, P3, Lib.hid ((K2.out.trans (KeepsOthers.setCell _ _ _)).trans ⟨Nat.le_refl _, fun _ _ h _ => h⟩)⟩
              case measure => simp [intOf]; omega
            · rw [if_neg hover, Int.add_zero] at hdf
              have P3 := Lib.hid (hP.out.put (S := phQ (z8 x0 x1 x2 x3 x4 x5 x6 x7) n pre x.val (m + 1)) (v := y / (n : Int)) hlt hx (fun i j _ _ h => HPQ.out _ _ _ h) (by rw [hpn, hdf]) (by omega))
              have K3 := Lib.hid (hKX.out.trans (KeepsOthers.setCell wr ⟨w1.heap.size, m * 8 + x.val, none⟩ (.int .i32 (y / (n : Int)))))
              clear hdf hbd hpn
              gi_wp2_with fail
              go_roundw
              case rel => exact ⟨m + 1, by omega, by go_num, P3, K3⟩
              case measure => simp [intOf]; omega
          · obtain rfl : m = n := by omega
            gi_wp2_with fail
            refine ⟨hKX.out.from _, trivial, hP.out.1, ?_, hP.out.2.2⟩
            have h2 := hP.out.2.1
            rw [tab_congr (S := phP (z8 x0 x1 x2 x3 x4 x5 x6 x7) m (pre ++ [x])) (fun i j hi _ => HPA.out i hi j)] at h2
            exact h2
      case done =>
        rintro D ys X hD rfl hR hK2
        have d2 := hR.1.2
        have hRH := Lib.hid hR
        go_wp2_with fail
        refine ⟨by simp, .inl ⟨_, _, rfl, run_takeDeferred hK2, ?_⟩⟩
        refine ⟨.tuple #[.slice (some ⟨w1.heap.size, 0, none⟩) n n, .int .i64 0], by simp [results, Try.results15, go_sem], _, rfl, ?_, hRH.out.2.2.trans (belowK_b (w := w2) (by omega) _ _ _ _ hD hK2 rfl rfl)⟩
        have h2 := hRH.out.2.1
        rw [tab_congr (S := partH (z8 x0 x1 x2 x3 x4 x5 x6 x7) n) (fun i j _ hj => phP_all (z8 x0 x1 x2 x3 x4 x5 x6 x7) hj), ← HL.out] at h2
        have hl : (partL (z8 x0 x1 x2 x3 x4 x5 x6 x7) n).length = n := by rw [HL.out, tabL_length]
        unfold OwnHp
        rw [hl]
        exact ownsRow_putObj (row_lower h2 (by omega)) _ hK2 rfl
      case stop =>
        rintro D c pre W hD hp hI hK
        exact hI.elim
    · have hfp : fineP h = false := inB_mkno (by omega)
      rw [hfp, show askC true false = 2 from rfl, if_neg (by decide)] at hm
      rw [hm]
      clear hok hm hfp
      by_cases h1 : h < 1
      · have hd1 : decide (h < 1) = true := decide_eq_true h1
        clear hf
        go_enter Try.func15, Try.ntmps15
        go_wp2_with fail
        rw [← HW0.out]
        refine (HV.out _).mono ?_
        rintro e w1 ⟨rfl, hB⟩
        have b1 := kept hB HZ0.out HB0.out
        have T1 := Lib.hid (T0.out.trans (hB.mono T0.out.size))
        clear hB c0 c1 c2 c3 c4 c5 c6 c7
        go_wp2_with fail
        go_ret2
        exact ⟨_, rfl, World.ownsRow_nil _ _ _ _, T1.out⟩
      · have h2 : 20 < h := by omega
        have hd1 : decide (h < 1) = false := decide_eq_false h1
        have hd2 : decide (20 < h) = true := decide_eq_true h2
        clear hf
        go_enter Try.func15, Try.ntmps15
        go_wp2_with fail
        rw [← HW0.out]
        refine (HV.out _).mono ?_
        rintro e w1 ⟨rfl, hB⟩
        have b1 := kept hB HZ0.out HB0.out
        have T1 := Lib.hid (T0.out.trans (hB.mono T0.out.size))
        clear hB c0 c1 c2 c3 c4 c5 c6 c7
        go_wp2_with fail
        go_ret2
        exact ⟨_, rfl, World.ownsRow_nil _ _ _ _, T1.out⟩
end Go.Proofs.Ytekejhnhkifcfaa
