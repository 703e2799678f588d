/-
  No statement is proved here: TakeLongest in the program, where it answers an error; conditions as stated.
-/
import Derived.Test.YtekejhnhkifcfaaTkS
import Derived.Test.YtekejhnhkifcfaaBackward
import Derived.Deep.RegionWith
namespace Go.Proofs.Ytekejhnhkifcfaa
open Go.RowKit Go.Shelf

/-- The boxes of the arguments and of the answers. -/
def TI (w W : World) (z : Nat → Int) (g : Int) : Prop := HeapAt W w.heap.size 0 z ∧ (W.cell? ⟨w.heap.size + 1, 0, none⟩ = some (.int .i64 g)) ∧ (HeapAt W (w.heap.size + 2) 0 zeroH ∧ HeapAt W (w.heap.size + 3) 0 zeroH) ∧ (∀ b o : Nat, w.heap.size ≤ b → b ≤ w.heap.size + 3 → W.frozen? ⟨b, o, none⟩ = false) ∧ Below w.heap.size w W
theorem TI.next {w W W' : World} {z : Nat → Int} {g : Int} (H : TI w W z g) (hB : Below W.heap.size W W') : TI w W' z g := by
  obtain ⟨h0, hg, ⟨h1, h2⟩, hf, hb⟩ := H
  have l2 := h2.lt
  exact ⟨h0.below hB h0.lt, kept hB (World.block_lt_of_cell? W _ hg) hg, ⟨h1.below hB h1.lt, h2.below hB l2⟩, fun b o e1 e2 => (hB.frozen (p := ⟨b, o, none⟩) (by show b < _; omega)).trans (hf b o e1 e2), hb.trans (hB.mono hb.size)⟩
theorem TI.made (w : World) (x0 x1 x2 x3 x4 x5 x6 x7 g : Int) (T U V : TypeId) : TI w ((((w.alloc (.cells #[.int .i32 x0, .int .i32 x1, .int .i32 x2, .int .i32 x3, .int .i32 x4, .int .i32 x5, .int .i32 x6, .int .i32 x7] T)).alloc (.cells #[.int .i64 g] U)).alloc (.cells #[.int .i32 0, .int .i32 0, .int .i32 0, .int .i32 0, .int .i32 0, .int .i32 0, .int .i32 0, .int .i32 0] V)).alloc (.cells #[.int .i32 0, .int .i32 0, .int .i32 0, .int .i32 0, .int .i32 0, .int .i32 0, .int .i32 0, .int .i32 0] V)) (z8 x0 x1 x2 x3 x4 x5 x6 x7) g := by
  have e1 := HeapAt.zero ((w.alloc (.cells #[.int .i32 x0, .int .i32 x1, .int .i32 x2, .int .i32 x3, .int .i32 x4, .int .i32 x5, .int .i32 x6, .int .i32 x7] T)).alloc (.cells #[.int .i64 g] U)) V
  have e2 := HeapAt.zero (((w.alloc (.cells #[.int .i32 x0, .int .i32 x1, .int .i32 x2, .int .i32 x3, .int .i32 x4, .int .i32 x5, .int .i32 x6, .int .i32 x7] T)).alloc (.cells #[.int .i64 g] U)).alloc (.cells #[.int .i32 0, .int .i32 0, .int .i32 0, .int .i32 0, .int .i32 0, .int .i32 0, .int .i32 0, .int .i32 0] V)) V
  rw [World.size_alloc, World.size_alloc] at e1
  rw [World.size_alloc, World.size_alloc, World.size_alloc] at e2
  refine ⟨(heapAt_alloc w x0 x1 x2 x3 x4 x5 x6 x7 T).below ((((Below.refl (w.heap.size + 1) _).alloc (by simp) _).alloc (by simp) _).alloc (by simp) _) (by omega), by simp [go_sem], ⟨e1.below ((Below.refl (w.heap.size + 3) _).alloc (by simp) _) (by omega), e2⟩, fun b o h1 h2 => ?_, by go_grown⟩
  have : b = w.heap.size ∨ b = w.heap.size + 1 ∨ b = w.heap.size + 2 ∨ b = w.heap.size + 3 := by omega
  rcases this with rfl | rfl | rfl | rfl <;> simp [go_sem]

set_option maxRecDepth 100000 in
set_option maxHeartbeats 4000000 in
theorem implTake_no (x0 x1 x2 x3 x4 x5 x6 x7 g : Int) (w : World) (hz : bd32 (z8 x0 x1 x2 x3 x4 x5 x6 x7)) (hno : ¬ (okH (z8 x0 x1 x2 x3 x4 x5 x6 x7) = true ∧ 0 ≤ g ∧ g ≤ sumTo (z8 x0 x1 x2 x3 x4 x5 x6 x7) 8)) :
    Calls Try.prog 20 #[.agg #[.int .i32 x0, .int .i32 x1, .int .i32 x2, .int .i32 x3, .int .i32 x4, .int .i32 x5, .int .i32 x6, .int .i32 x7], .int .i64 g] w fun e w' => e = .returned (.tuple #[h32 (takeF (z8 x0 x1 x2 x3 x4 x5 x6 x7) g).1, h32 (takeF (z8 x0 x1 x2 x3 x4 x5 x6 x7) g).2.1, .int .i64 (takeF (z8 x0 x1 x2 x3 x4 x5 x6 x7) g).2.2]) ∧ Below w.heap.size w w' := by
  have K0 := Lib.hid (TI.made w x0 x1 x2 x3 x4 x5 x6 x7 g 23 2 23)
  obtain ⟨W0, hW0⟩ : ∃ W0, W0 = ((((w.alloc (.cells #[.int .i32 x0, .int .i32 x1, .int .i32 x2, .int .i32 x3, .int .i32 x4, .int .i32 x5, .int .i32 x6, .int .i32 x7] 23)).alloc (.cells #[.int .i64 g] 2)).alloc (.cells #[.int .i32 0, .int .i32 0, .int .i32 0, .int .i32 0, .int .i32 0, .int .i32 0, .int .i32 0, .int .i32 0] 23)).alloc (.cells #[.int .i32 0, .int .i32 0, .int .i32 0, .int .i32 0, .int .i32 0, .int .i32 0, .int .i32 0, .int .i32 0] 23)) := ⟨_, rfl⟩
  rw [← hW0] at K0
  have HW0 := Lib.hid hW0
  have hv := Lib.hid (validHeap_exact x0 x1 x2 x3 x4 x5 x6 x7 W0)
  have hsum := Lib.hid fun wx (hx : HeapAt wx w.heap.size 0 (z8 x0 x1 x2 x3 x4 x5 x6 x7)) => sumOf32_any (z8 x0 x1 x2 x3 x4 x5 x6 x7) w.heap.size 0 wx hx hz
  obtain ⟨c0, c1, c2, c3, c4, c5, c6, c7⟩ : W0.cell? ⟨w.heap.size, 0, none⟩ = some (.int .i32 x0) ∧ W0.cell? ⟨w.heap.size, 1, none⟩ = some (.int .i32 x1) ∧ W0.cell? ⟨w.heap.size, 2, none⟩ = some (.int .i32 x2) ∧ W0.cell? ⟨w.heap.size, 3, none⟩ = some (.int .i32 x3) ∧ W0.cell? ⟨w.heap.size, 4, none⟩ = some (.int .i32 x4) ∧ W0.cell? ⟨w.heap.size, 5, none⟩ = some (.int .i32 x5) ∧ W0.cell? ⟨w.heap.size, 6, none⟩ = some (.int .i32 x6) ∧ W0.cell? ⟨w.heap.size, 7, none⟩ = some (.int .i32 x7) := ⟨K0.out.1.at0 (k := 0) (by omega), K0.out.1.at0 (k := 1) (by omega), K0.out.1.at0 (k := 2) (by omega), K0.out.1.at0 (k := 3) (by omega), K0.out.1.at0 (k := 4) (by omega), K0.out.1.at0 (k := 5) (by omega), K0.out.1.at0 (k := 6) (by omega), K0.out.1.at0 (k := 7) (by omega)⟩
  have cg := K0.out.2.1
  generalize (z8 x0 x1 x2 x3 x4 x5 x6 x7) = z at *
  clear hW0 hz
  cases hok : okH z with
  | false =>
    have hqe := Lib.hid (takeF_bad (g := g) hok)
    rw [hok] at hv
    clear hok hno
    go_enter Try.func20, Try.ntmps20
    go_wp2_with fail
    rw [← HW0.out]
    go_wp2_with fail
    refine hv.out.mono ?_
    rintro e w1 ⟨rfl, hw1⟩
    have K1 := Lib.hid (K0.out.next (hw1 ▸ (Below.refl _ _).alloc (Nat.le_refl _) _))
    clear hw1 c0 c1 c2 c3 c4 c5 c6 c7 cg
    have r0 : w1.cell? ⟨w.heap.size + 2, 0, none⟩ = some (.int .i32 0) := K1.out.2.2.1.1.at0 (by omega)
    have q0 : w1.cell? ⟨w.heap.size + 3, 0, none⟩ = some (.int .i32 0) := K1.out.2.2.1.2.at0 (by omega)
    have s0 := setCell_id r0
    have t0 := setCell_id q0
    have r1 : w1.cell? ⟨w.heap.size + 2, 1, none⟩ = some (.int .i32 0) := K1.out.2.2.1.1.at0 (by omega)
    have q1 : w1.cell? ⟨w.heap.size + 3, 1, none⟩ = some (.int .i32 0) := K1.out.2.2.1.2.at0 (by omega)
    have s1 := setCell_id r1
    have t1 := setCell_id q1
    have r2 : w1.cell? ⟨w.heap.size + 2, 2, none⟩ = some (.int .i32 0) := K1.out.2.2.1.1.at0 (by omega)
    have q2 : w1.cell? ⟨w.heap.size + 3, 2, none⟩ = some (.int .i32 0) := K1.out.2.2.1.2.at0 (by omega)
    have s2 := setCell_id r2
    have t2 := setCell_id q2
    have r3 : w1.cell? ⟨w.heap.size + 2, 3, none⟩ = some (.int .i32 0) := K1.out.2.2.1.1.at0 (by omega)
    have q3 : w1.cell? ⟨w.heap.size + 3, 3, none⟩ = some (.int .i32 0) := K1.out.2.2.1.2.at0 (by omega)
    have s3 := setCell_id r3
    have t3 := setCell_id q3
    have r4 : w1.cell? ⟨w.heap.size + 2, 4, none⟩ = some (.int .i32 0) := K1.out.2.2.1.1.at0 (by omega)
    have q4 : w1.cell? ⟨w.heap.size + 3, 4, none⟩ = some (.int .i32 0) := K1.out.2.2.1.2.at0 (by omega)
    have s4 := setCell_id r4
    have t4 := setCell_id q4
    have r5 : w1.cell? ⟨w.heap.size + 2, 5, none⟩ = some (.int .i32 0) := K1.out.2.2.1.1.at0 (by omega)
    have q5 : w1.cell? ⟨w.heap.size + 3, 5, none⟩ = some (.int .i32 0) := K1.out.2.2.1.2.at0 (by omega)
    have s5 := setCell_id r5
    have t5 := setCell_id q5
    have r6 : w1.cell? ⟨w.heap.size + 2, 6, none⟩ = some (.int .i32 0) := K1.out.2.2.1.1.at0 (by omega)
    have q6 : w1.cell? ⟨w.heap.size + 3, 6, none⟩ = some (.int .i32 0) := K1.out.2.2.1.2.at0 (by omega)
    have s6 := setCell_id r6
    have t6 := setCell_id q6
    have r7 : w1.cell? ⟨w.heap.size + 2, 7, none⟩ = some (.int .i32 0) := K1.out.2.2.1.1.at0 (by omega)
    have q7 : w1.cell? ⟨w.heap.size + 3, 7, none⟩ = some (.int .i32 0) := K1.out.2.2.1.2.at0 (by omega)
    have s7 := setCell_id r7
    have t7 := setCell_id q7
    have fz1 : ∀ o : Nat, w1.frozen? ⟨w.heap.size + 2, o, none⟩ = false := fun o => K1.out.2.2.2.1 _ o (by omega) (by omega)
    have fz2 : ∀ o : Nat, w1.frozen? ⟨w.heap.size + 3, o, none⟩ = false := fun o => K1.out.2.2.2.1 _ o (by omega) (by omega)
    have T2 := Lib.hid K1.out.2.2.2.2
    have cg1 := K1.out.2.1
    go_wp2
    refine bodyPost_ret (by simp [results, Try.results20, go_sem, r0, r1, r2, r3, r4, r5, r6, r7, q0, q1, q2, q3, q4, q5, q6, q7]; try rfl) rfl ?_
    rw [hqe.out]
    exact ⟨rfl, T2.out⟩
  | true =>
    by_cases hg : 0 ≤ g
    · have hs : ¬ g ≤ sumTo z 8 := fun h => hno ⟨hok, hg, h⟩
      have hqe := Lib.hid (takeF_few hok hg hs)
      rw [hok] at hv
      clear hok hno
      generalize sumTo z 8 = S at *
      have hg0 : decide (g < 0) = false := by simp; omega
      have hg1 : decide (S < g) = true := by simp; omega
      have hg2 : S < g := by omega
      clear hs
      go_enter Try.func20, Try.ntmps20
      go_wp2_with fail
      rw [← HW0.out]
      go_wp2_with fail
      refine hv.out.mono ?_
      rintro e w1 ⟨rfl, hw1⟩
      have K1 := Lib.hid (K0.out.next (hw1 ▸ (Below.refl _ _).alloc (Nat.le_refl _) _))
      clear hw1 c0 c1 c2 c3 c4 c5 c6 c7 cg
      have r0 : w1.cell? ⟨w.heap.size + 2, 0, none⟩ = some (.int .i32 0) := K1.out.2.2.1.1.at0 (by omega)
      have q0 : w1.cell? ⟨w.heap.size + 3, 0, none⟩ = some (.int .i32 0) := K1.out.2.2.1.2.at0 (by omega)
      have s0 := setCell_id (w := w1.drew) r0
      have t0 := setCell_id (w := w1.drew) q0
      have r1 : w1.cell? ⟨w.heap.size + 2, 1, none⟩ = some (.int .i32 0) := K1.out.2.2.1.1.at0 (by omega)
      have q1 : w1.cell? ⟨w.heap.size + 3, 1, none⟩ = some (.int .i32 0) := K1.out.2.2.1.2.at0 (by omega)
      have s1 := setCell_id (w := w1.drew) r1
      have t1 := setCell_id (w := w1.drew) q1
      have r2 : w1.cell? ⟨w.heap.size + 2, 2, none⟩ = some (.int .i32 0) := K1.out.2.2.1.1.at0 (by omega)
      have q2 : w1.cell? ⟨w.heap.size + 3, 2, none⟩ = some (.int .i32 0) := K1.out.2.2.1.2.at0 (by omega)
      have s2 := setCell_id (w := w1.drew) r2
      have t2 := setCell_id (w := w1.drew) q2
      have r3 : w1.cell? ⟨w.heap.size + 2, 3, none⟩ = some (.int .i32 0) := K1.out.2.2.1.1.at0 (by omega)
      have q3 : w1.cell? ⟨w.heap.size + 3, 3, none⟩ = some (.int .i32 0) := K1.out.2.2.1.2.at0 (by omega)
      have s3 := setCell_id (w := w1.drew) r3
      have t3 := setCell_id (w := w1.drew) q3
      have r4 : w1.cell? ⟨w.heap.size + 2, 4, none⟩ = some (.int .i32 0) := K1.out.2.2.1.1.at0 (by omega)
      have q4 : w1.cell? ⟨w.heap.size + 3, 4, none⟩ = some (.int .i32 0) := K1.out.2.2.1.2.at0 (by omega)
      have s4 := setCell_id (w := w1.drew) r4
      have t4 := setCell_id (w := w1.drew) q4
      have r5 : w1.cell? ⟨w.heap.size + 2, 5, none⟩ = some (.int .i32 0) := K1.out.2.2.1.1.at0 (by omega)
      have q5 : w1.cell? ⟨w.heap.size + 3, 5, none⟩ = some (.int .i32 0) := K1.out.2.2.1.2.at0 (by omega)
      have s5 := setCell_id (w := w1.drew) r5
      have t5 := setCell_id (w := w1.drew) q5
      have r6 : w1.cell? ⟨w.heap.size + 2, 6, none⟩ = some (.int .i32 0) := K1.out.2.2.1.1.at0 (by omega)
      have q6 : w1.cell? ⟨w.heap.size + 3, 6, none⟩ = some (.int .i32 0) := K1.out.2.2.1.2.at0 (by omega)
      have s6 := setCell_id (w := w1.drew) r6
      have t6 := setCell_id (w := w1.drew) q6
      have r7 : w1.cell? ⟨w.heap.size + 2, 7, none⟩ = some (.int .i32 0) := K1.out.2.2.1.1.at0 (by omega)
      have q7 : w1.cell? ⟨w.heap.size + 3, 7, none⟩ = some (.int .i32 0) := K1.out.2.2.1.2.at0 (by omega)
      have s7 := setCell_id (w := w1.drew) r7
      have t7 := setCell_id (w := w1.drew) q7
      have fz1 : ∀ o : Nat, w1.frozen? ⟨w.heap.size + 2, o, none⟩ = false := fun o => K1.out.2.2.2.1 _ o (by omega) (by omega)
      have fz2 : ∀ o : Nat, w1.frozen? ⟨w.heap.size + 3, o, none⟩ = false := fun o => K1.out.2.2.2.1 _ o (by omega) (by omega)
      have T2 := Lib.hid K1.out.2.2.2.2
      have cg1 := K1.out.2.1
      go_wp2_with fail
      go_region_with (first | (go_at_call 41; refine (hsum.out _ (by exact fun k hk => K1.out.1 k hk)).mono ?_; rintro e w2 ⟨rfl, rfl⟩))
      all_goals
        go_wp2
        refine bodyPost_ret (by simp [results, Try.results20, go_sem, r0, r1, r2, r3, r4, r5, r6, r7, q0, q1, q2, q3, q4, q5, q6, q7]; try rfl) rfl ?_
        rw [hqe.out]
        exact ⟨rfl, T2.out.drew⟩
    · have hqe := Lib.hid (takeF_neg hok hg)
      rw [hok] at hv
      clear hok hno
      have hg0 : decide (g < 0) = true := by simp; omega
      have hg2 : g < 0 := by omega
      clear hg
      go_enter Try.func20, Try.ntmps20
      go_wp2_with fail
      rw [← HW0.out]
      go_wp2_with fail
      refine hv.out.mono ?_
      rintro e w1 ⟨rfl, hw1⟩
      have K1 := Lib.hid (K0.out.next (hw1 ▸ (Below.refl _ _).alloc (Nat.le_refl _) _))
      clear hw1 c0 c1 c2 c3 c4 c5 c6 c7 cg
      have r0 : w1.cell? ⟨w.heap.size + 2, 0, none⟩ = some (.int .i32 0) := K1.out.2.2.1.1.at0 (by omega)
      have q0 : w1.cell? ⟨w.heap.size + 3, 0, none⟩ = some (.int .i32 0) := K1.out.2.2.1.2.at0 (by omega)
      have s0 := setCell_id r0
      have t0 := setCell_id q0
      have r1 : w1.cell? ⟨w.heap.size + 2, 1, none⟩ = some (.int .i32 0) := K1.out.2.2.1.1.at0 (by omega)
      have q1 : w1.cell? ⟨w.heap.size + 3, 1, none⟩ = some (.int .i32 0) := K1.out.2.2.1.2.at0 (by omega)
      have s1 := setCell_id r1
      have t1 := setCell_id q1
      have r2 : w1.cell? ⟨w.heap.size + 2, 2, none⟩ = some (.int .i32 0) := K1.out.2.2.1.1.at0 (by omega)
      have q2 : w1.cell? ⟨w.heap.size + 3, 2, none⟩ = some (.int .i32 0) := K1.out.2.2.1.2.at0 (by omega)
      have s2 := setCell_id r2
      have t2 := setCell_id q2
      have r3 : w1.cell? ⟨w.heap.size + 2, 3, none⟩ = some (.int .i32 0) := K1.out.2.2.1.1.at0 (by omega)
      have q3 : w1.cell? ⟨w.heap.size + 3, 3, none⟩ = some (.int .i32 0) := K1.out.2.2.1.2.at0 (by omega)
      have s3 := setCell_id r3
      have t3 := setCell_id q3
      have r4 : w1.cell? ⟨w.heap.size + 2, 4, none⟩ = some (.int .i32 0) := K1.out.2.2.1.1.at0 (by omega)
      have q4 : w1.cell? ⟨w.heap.size + 3, 4, none⟩ = some (.int .i32 0) := K1.out.2.2.1.2.at0 (by omega)
      have s4 := setCell_id r4
      have t4 := setCell_id q4
      have r5 : w1.cell? ⟨w.heap.size + 2, 5, none⟩ = some (.int .i32 0) := K1.out.2.2.1.1.at0 (by omega)
      have q5 : w1.cell? ⟨w.heap.size + 3, 5, none⟩ = some (.int .i32 0) := K1.out.2.2.1.2.at0 (by omega)
      have s5 := setCell_id r5
      have t5 := setCell_id q5
      have r6 : w1.cell? ⟨w.heap.size + 2, 6, none⟩ = some (.int .i32 0) := K1.out.2.2.1.1.at0 (by omega)
      have q6 : w1.cell? ⟨w.heap.size + 3, 6, none⟩ = some (.int .i32 0) := K1.out.2.2.1.2.at0 (by omega)
      have s6 := setCell_id r6
      have t6 := setCell_id q6
      have r7 : w1.cell? ⟨w.heap.size + 2, 7, none⟩ = some (.int .i32 0) := K1.out.2.2.1.1.at0 (by omega)
      have q7 : w1.cell? ⟨w.heap.size + 3, 7, none⟩ = some (.int .i32 0) := K1.out.2.2.1.2.at0 (by omega)
      have s7 := setCell_id r7
      have t7 := setCell_id q7
      have fz1 : ∀ o : Nat, w1.frozen? ⟨w.heap.size + 2, o, none⟩ = false := fun o => K1.out.2.2.2.1 _ o (by omega) (by omega)
      have fz2 : ∀ o : Nat, w1.frozen? ⟨w.heap.size + 3, o, none⟩ = false := fun o => K1.out.2.2.2.1 _ o (by omega) (by omega)
      have T2 := Lib.hid K1.out.2.2.2.2
      have cg1 := K1.out.2.1
      go_wp2
      refine bodyPost_ret (by simp [results, Try.results20, go_sem, r0, r1, r2, r3, r4, r5, r6, r7, q0, q1, q2, q3, q4, q5, q6, q7]; try rfl) rfl ?_
      rw [hqe.out]
      exact ⟨rfl, T2.out⟩
end Go.Proofs.Ytekejhnhkifcfaa
