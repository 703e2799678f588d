/-
  No statement is proved here: ReadHoles in the program; no condition.
-/
import Derived.Test.YtopfehbdnopokaaRhM
import Derived.Test.YtopfehbdnopokaaHtI
namespace Go.Proofs.Ytopfehbdnopokaa
open Go.ChangeShapes Go.WideShapes Go.ChangeAt Go.RowKit

/-- The boxes of the text and of the answer. -/
def RK (w W : World) (s : ByteArray) : Prop := W.cell? ⟨w.heap.size, 0, none⟩ = some (.string s) ∧ HAt W (w.heap.size + 1) (fun _ => 0) ∧ (∀ o : Nat, W.frozen? ⟨w.heap.size + 1, o, none⟩ = false) ∧ Below w.heap.size w W
theorem RK.next {w W W' : World} {s : ByteArray} (H : RK w W s) (hB : Below W.heap.size W W') : RK w W' s := by
  have hl : w.heap.size + 1 < W.heap.size := World.block_lt_of_cell? W _ (H.2.1 0 (by omega))
  exact ⟨kept hB (World.block_lt_of_cell? W _ H.1) H.1, H.2.1.below hB, fun o => (hB.frozen (p := ⟨w.heap.size + 1, o, none⟩) hl).trans (H.2.2.1 o), H.2.2.2.trans (hB.mono H.2.2.2.size)⟩
theorem RK.made (w : World) (T U : TypeId) (s : ByteArray) : RK w ((w.alloc (.cells #[.string s] T)).alloc (.cells #[.int .u8 0, .int .u8 0, .int .u8 0, .int .u8 0, .int .u8 0, .int .u8 0, .int .u8 0, .int .u8 0] U)) s := by
  refine ⟨by simp [go_sem], ?_, fun o => by simp [go_sem], by go_grown⟩
  have := hat_made (w.alloc (.cells #[.string s] T)) U (fun _ => 0)
  simpa only [World.size_alloc] using this
/-- Besides, the holes that were read. -/
def RB (w W : World) (s : ByteArray) (A : Nat) (h : Nat → Int) : Prop := W.cell? ⟨w.heap.size, 0, none⟩ = some (.string s) ∧ W.cell? ⟨A, 0, none⟩ = some (.int .u8 (h 0)) ∧ W.cell? ⟨A, 1, none⟩ = some (.int .u8 (h 1)) ∧ W.cell? ⟨A, 2, none⟩ = some (.int .u8 (h 2)) ∧ W.cell? ⟨A, 3, none⟩ = some (.int .u8 (h 3)) ∧ W.cell? ⟨A, 4, none⟩ = some (.int .u8 (h 4)) ∧ W.cell? ⟨A, 5, none⟩ = some (.int .u8 (h 5)) ∧ W.cell? ⟨A, 6, none⟩ = some (.int .u8 (h 6)) ∧ W.cell? ⟨A, 7, none⟩ = some (.int .u8 (h 7)) ∧ RK w W s
theorem RB.next {w W W' : World} {s : ByteArray} {A : Nat} {h : Nat → Int} (H : RB w W s A h) (hB : Below W.heap.size W W') : RB w W' s A h := by
  obtain ⟨b0, a0, a1, a2, a3, a4, a5, a6, a7, z⟩ := H
  have k : ∀ {b o : Nat} {v : Value}, W.cell? ⟨b, o, none⟩ = some v → W'.cell? ⟨b, o, none⟩ = some v := fun hc => kept hB (World.block_lt_of_cell? W _ hc) hc
  exact ⟨k b0, k a0, k a1, k a2, k a3, k a4, k a5, k a6, k a7, z.next hB⟩
theorem RB.of {w W : World} {s : ByteArray} {A : Nat} {h : Nat → Int} (K : RK w W s) (H : HAt W A h) : RB w W s A h :=
  ⟨K.1, H 0 (by omega), H 1 (by omega), H 2 (by omega), H 3 (by omega), H 4 (by omega), H 5 (by omega), H 6 (by omega), H 7 (by omega), K⟩
theorem RB.id {w W : World} {s : ByteArray} {A : Nat} {h : Nat → Int} (H : W.cell? ⟨w.heap.size, 0, none⟩ = some (.string s) ∧ W.cell? ⟨A, 0, none⟩ = some (.int .u8 (h 0)) ∧ W.cell? ⟨A, 1, none⟩ = some (.int .u8 (h 1)) ∧ W.cell? ⟨A, 2, none⟩ = some (.int .u8 (h 2)) ∧ W.cell? ⟨A, 3, none⟩ = some (.int .u8 (h 3)) ∧ W.cell? ⟨A, 4, none⟩ = some (.int .u8 (h 4)) ∧ W.cell? ⟨A, 5, none⟩ = some (.int .u8 (h 5)) ∧ W.cell? ⟨A, 6, none⟩ = some (.int .u8 (h 6)) ∧ W.cell? ⟨A, 7, none⟩ = some (.int .u8 (h 7)) ∧ RK w W s) : RB w W s A h := H

set_option maxRecDepth 100000 in
set_option maxHeartbeats 1600000 in
theorem implRead_any (s : ByteArray) (w : World) :
    Calls Try.prog 6 #[.string s] w fun e w' => e = .returned (.tuple #[hv (readF s.data.toList).1, .int .i64 (readF s.data.toList).2]) ∧ Below w.heap.size w w' := by
  have K0 := Lib.hid (RK.made w 9 23 s)
  by_cases h72 : s.size = 72
  · have HW := Lib.hid fun wx hc => whereRead_any w.heap.size s wx h72 hc
    have h8 := tlF_bytes (toldT s.data.toList)
    have HH := Lib.hid fun wx => implHText_any (tlF (toldT s.data.toList)) wx h8
    have HR1 := Lib.hid (readF_yes (l := s.data.toList))
    have HR2 := Lib.hid (readF_no (l := s.data.toList))
    have hX : Hid ((⟨(txH (tlF (toldT s.data.toList)) 8).toArray⟩ : ByteArray) = s ↔ s.data.toList = txH (tlF (toldT s.data.toList)) 8) := Lib.hid (by
      constructor
      · intro e
        exact (congrArg (fun b : ByteArray => b.data.toList) e).symm
      · intro e
        apply ByteArray.ext
        apply Array.toList_inj.1
        exact e.symm)
    generalize readF s.data.toList = q at *
    generalize txH (tlF (toldT s.data.toList)) 8 = X at *
    generalize tlF (toldT s.data.toList) = h at *
    obtain ⟨Y, hY⟩ : ∃ Y : ByteArray, Y = ⟨X.toArray⟩ := ⟨_, rfl⟩
    rw [← hY] at hX HH
    obtain ⟨W0, hW0⟩ : ∃ W0, W0 = (w.alloc (.cells #[.string s] 9)).alloc (.cells #[.int .u8 0, .int .u8 0, .int .u8 0, .int .u8 0, .int .u8 0, .int .u8 0, .int .u8 0, .int .u8 0] 23) := ⟨_, rfl⟩
    rw [← hW0] at K0
    have HW0 := Lib.hid hW0
    have c0 := K0.out.1
    have hsz : (s.size : Int) = 72 := by omega
    clear hW0 h8 hY h72
    cases hq : (Y.toList == s.toList) with
    | true =>
      have hYs : Y = s := by
        rw [beq_iff_eq, ByteArray.toList_eq, ByteArray.toList_eq] at hq
        exact ByteArray.ext (Array.toList_inj.1 hq)
      have hqe := Lib.hid (HR1.out (hX.out.1 hYs))
      clear hYs
      go_enter Try.func6, Try.ntmps6
      go_wp2_with fail
      rw [← HW0.out]
      go_wp2_with fail
      refine (HW.out _ (by assumption)).mono ?_
      rintro e w1 ⟨rfl, hB⟩
      have K1 := Lib.hid (K0.out.next hB)
      have X1 := Lib.hid (RB.of (K1.out.next ((Below.refl _ _).alloc (Nat.le_refl _) _)) (hat_made w1 23 h))
      clear hB c0
      go_wp2_with fail
      go_region_held3 (fun W => W.cell? ⟨w.heap.size, 0, none⟩ = some (.string s) ∧ W.cell? ⟨w1.heap.size, 0, none⟩ = some (.int .u8 (h 0)) ∧ W.cell? ⟨w1.heap.size, 1, none⟩ = some (.int .u8 (h 1)) ∧ W.cell? ⟨w1.heap.size, 2, none⟩ = some (.int .u8 (h 2)) ∧ W.cell? ⟨w1.heap.size, 3, none⟩ = some (.int .u8 (h 3)) ∧ W.cell? ⟨w1.heap.size, 4, none⟩ = some (.int .u8 (h 4)) ∧ W.cell? ⟨w1.heap.size, 5, none⟩ = some (.int .u8 (h 5)) ∧ W.cell? ⟨w1.heap.size, 6, none⟩ = some (.int .u8 (h 6)) ∧ W.cell? ⟨w1.heap.size, 7, none⟩ = some (.int .u8 (h 7)) ∧ RK w W s)
        (first | assumption | exact X1.out | exact X1.out.next ((Below.refl _ _).drew) | (refine RB.next ?_ hB; assumption))
        (first | (go_at_call 17; refine (HH.out _).mono ?_; rintro e w' ⟨rfl, hB⟩))
      have X2 := Lib.hid (RB.id (w := w) (A := w1.heap.size) (h := h) (s := s) (by assumption))
      have K2 := Lib.hid X2.out.2.2.2.2.2.2.2.2.2
      have T2 := Lib.hid K2.out.2.2.2
      have fz : ∀ o : Nat, _ := K2.out.2.2.1
      have r0 := K2.out.2.1 0 (by omega)
      have r1 := K2.out.2.1 1 (by omega)
      have r2 := K2.out.2.1 2 (by omega)
      have r3 := K2.out.2.1 3 (by omega)
      have r4 := K2.out.2.1 4 (by omega)
      have r5 := K2.out.2.1 5 (by omega)
      have r6 := K2.out.2.1 6 (by omega)
      have r7 := K2.out.2.1 7 (by omega)
      obtain ⟨a0, a1, a2, a3, a4, a5, a6, a7⟩ : _ ∧ _ ∧ _ ∧ _ ∧ _ ∧ _ ∧ _ ∧ _ := ⟨X2.out.2.1, X2.out.2.2.1, X2.out.2.2.2.1, X2.out.2.2.2.2.1, X2.out.2.2.2.2.2.1, X2.out.2.2.2.2.2.2.1, X2.out.2.2.2.2.2.2.2.1, X2.out.2.2.2.2.2.2.2.2.1⟩
      obtain ⟨e0, e1, e2, e3, e4, e5, e6, e7⟩ := res8P (.int .u8 (h 0)) (.int .u8 (h 1)) (.int .u8 (h 2)) (.int .u8 (h 3)) (.int .u8 (h 4)) (.int .u8 (h 5)) (.int .u8 (h 6)) (.int .u8 (h 7)) r0 r1 r2 r3 r4 r5 r6 r7
      go_wp2
      refine bodyPost_ret (by simp [results, Try.results6, go_sem, e0, e1, e2, e3, e4, e5, e6, e7]; try rfl) rfl ?_
      rw [hqe.out]
      refine ⟨rfl, ?_⟩
      go_grown
      exact T2.out
    | false =>
      have hYs : ¬ Y = s := fun e => by
        subst e
        simp at hq
      have hqe := Lib.hid (HR2.out fun e => hYs (hX.out.2 e))
      clear hYs
      go_enter Try.func6, Try.ntmps6
      go_wp2_with fail
      rw [← HW0.out]
      go_wp2_with fail
      refine (HW.out _ (by assumption)).mono ?_
      rintro e w1 ⟨rfl, hB⟩
      have K1 := Lib.hid (K0.out.next hB)
      have X1 := Lib.hid (RB.of (K1.out.next ((Below.refl _ _).alloc (Nat.le_refl _) _)) (hat_made w1 23 h))
      clear hB c0
      go_wp2_with fail
      go_region_held3 (fun W => W.cell? ⟨w.heap.size, 0, none⟩ = some (.string s) ∧ W.cell? ⟨w1.heap.size, 0, none⟩ = some (.int .u8 (h 0)) ∧ W.cell? ⟨w1.heap.size, 1, none⟩ = some (.int .u8 (h 1)) ∧ W.cell? ⟨w1.heap.size, 2, none⟩ = some (.int .u8 (h 2)) ∧ W.cell? ⟨w1.heap.size, 3, none⟩ = some (.int .u8 (h 3)) ∧ W.cell? ⟨w1.heap.size, 4, none⟩ = some (.int .u8 (h 4)) ∧ W.cell? ⟨w1.heap.size, 5, none⟩ = some (.int .u8 (h 5)) ∧ W.cell? ⟨w1.heap.size, 6, none⟩ = some (.int .u8 (h 6)) ∧ W.cell? ⟨w1.heap.size, 7, none⟩ = some (.int .u8 (h 7)) ∧ RK w W s)
        (first | assumption | exact X1.out | exact X1.out.next ((Below.refl _ _).drew) | (refine RB.next ?_ hB; assumption))
        (first | (go_at_call 17; refine (HH.out _).mono ?_; rintro e w' ⟨rfl, hB⟩))
      have X2 := Lib.hid (RB.id (w := w) (A := w1.heap.size) (h := h) (s := s) (by assumption))
      have K2 := Lib.hid X2.out.2.2.2.2.2.2.2.2.2
      have T2 := Lib.hid K2.out.2.2.2
      have fz : ∀ o : Nat, _ := K2.out.2.2.1
      have r0 := K2.out.2.1 0 (by omega)
      have r1 := K2.out.2.1 1 (by omega)
      have r2 := K2.out.2.1 2 (by omega)
      have r3 := K2.out.2.1 3 (by omega)
      have r4 := K2.out.2.1 4 (by omega)
      have r5 := K2.out.2.1 5 (by omega)
      have r6 := K2.out.2.1 6 (by omega)
      have r7 := K2.out.2.1 7 (by omega)
      obtain ⟨e0, e1, e2, e3, e4, e5, e6, e7⟩ := res8P (.int .u8 (0)) (.int .u8 (0)) (.int .u8 (0)) (.int .u8 (0)) (.int .u8 (0)) (.int .u8 (0)) (.int .u8 (0)) (.int .u8 (0)) r0 r1 r2 r3 r4 r5 r6 r7
      go_wp2
      refine bodyPost_ret (by simp [results, Try.results6, go_sem, e0, e1, e2, e3, e4, e5, e6, e7]; try rfl) rfl ?_
      rw [hqe.out]
      refine ⟨rfl, ?_⟩
      go_grown
      exact T2.out
  · have hne : Hid (readF s.data.toList = (z8, 5)) := Lib.hid (readF_no fun e => h72 (by
      have := congrArg List.length e
      rw [txH_len] at this
      simpa using this))
    rw [hne.out]
    have hsz : ((s.size : Int) == 72) = false := by rw [beq_eq_false_iff_ne]; omega
    have hsz2 : ¬ (s.size : Int) = 72 := by omega
    clear h72
    go_enter Try.func6, Try.ntmps6
    go_wp2
    go_returns
    exact ⟨rfl, by go_grown⟩
end Go.Proofs.Ytopfehbdnopokaa
