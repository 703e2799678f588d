/-
  No statement is proved here: several weeks of holes, both sides; condition: the program's errors lie where its text lays them.
-/
import Derived.Test.YtcdjjijagibhlaaDoorHoT
import Derived.Test.YtcdjjijagibhlaaDoorWithin
namespace Go.Proofs.YtcdjjijagibhlaaDoor
open Go.ChangeShapes Go.WideShapes Go.ChangeAt Go.RowKit

/-- Several weeks. -/
def wks (need : Int) (h : Nat → Int) : Nat → (Nat → Int)
  | 0 => h
  | n + 1 => weekF (wks need h n) need
theorem wks_bytes {h : Nat → Int} (h8 : Bytes8 h) (need : Int) : ∀ n, Bytes8 (wks need h n)
  | 0 => h8
  | _ + 1 => weekF_bytes _ _
def z8 : Nat → Int := fun _ => 0
def wlF (h : Nat → Int) (need weeks : Int) : (Nat → Int) × Int := if (inB need 1 4 && inB weeks 0 100) = true then (wks need h weeks.toNat, 0) else (z8, 2)
theorem wlF_yes {h : Nat → Int} {need weeks : Int} (e : (inB need 1 4 && inB weeks 0 100) = true) : wlF h need weeks = (wks need h weeks.toNat, 0) := if_pos e
theorem wlF_no {h : Nat → Int} {need weeks : Int} (e : (inB need 1 4 && inB weeks 0 100) = false) : wlF h need weeks = (z8, 2) := if_neg (by simp [e])
theorem hat_put {wr : World} {rb : Nat} {g0 : Nat → Int} (H : HAt wr rb g0) (g : Nat → Int) : HAt ((((((((wr.setCell ⟨rb, 0, none⟩ (.int .u8 (g 0))).setCell ⟨rb, 1, none⟩ (.int .u8 (g 1))).setCell ⟨rb, 2, none⟩ (.int .u8 (g 2))).setCell ⟨rb, 3, none⟩ (.int .u8 (g 3))).setCell ⟨rb, 4, none⟩ (.int .u8 (g 4))).setCell ⟨rb, 5, none⟩ (.int .u8 (g 5))).setCell ⟨rb, 6, none⟩ (.int .u8 (g 6))).setCell ⟨rb, 7, none⟩ (.int .u8 (g 7))) rb g := by
  obtain ⟨e0, e1, e2, e3, e4, e5, e6, e7⟩ := res8 (.int .u8 (g 0)) (.int .u8 (g 1)) (.int .u8 (g 2)) (.int .u8 (g 3)) (.int .u8 (g 4)) (.int .u8 (g 5)) (.int .u8 (g 6)) (.int .u8 (g 7)) (H 0 (by omega)) (H 1 (by omega)) (H 2 (by omega)) (H 3 (by omega)) (H 4 (by omega)) (H 5 (by omega)) (H 6 (by omega)) (H 7 (by omega))
  intro j hj
  have : j = 0 ∨ j = 1 ∨ j = 2 ∨ j = 3 ∨ j = 4 ∨ j = 5 ∨ j = 6 ∨ j = 7 := by omega
  rcases this with rfl | rfl | rfl | rfl | rfl | rfl | rfl | rfl
  · exact ((World.cell?_setCell_other _ _ _ _ (by simp)).trans ((World.cell?_setCell_other _ _ _ _ (by simp)).trans ((World.cell?_setCell_other _ _ _ _ (by simp)).trans ((World.cell?_setCell_other _ _ _ _ (by simp)).trans ((World.cell?_setCell_other _ _ _ _ (by simp)).trans ((World.cell?_setCell_other _ _ _ _ (by simp)).trans ((World.cell?_setCell_other _ _ _ _ (by simp)).trans e0)))))))
  · exact ((World.cell?_setCell_other _ _ _ _ (by simp)).trans ((World.cell?_setCell_other _ _ _ _ (by simp)).trans ((World.cell?_setCell_other _ _ _ _ (by simp)).trans ((World.cell?_setCell_other _ _ _ _ (by simp)).trans ((World.cell?_setCell_other _ _ _ _ (by simp)).trans ((World.cell?_setCell_other _ _ _ _ (by simp)).trans e1))))))
  · exact ((World.cell?_setCell_other _ _ _ _ (by simp)).trans ((World.cell?_setCell_other _ _ _ _ (by simp)).trans ((World.cell?_setCell_other _ _ _ _ (by simp)).trans ((World.cell?_setCell_other _ _ _ _ (by simp)).trans ((World.cell?_setCell_other _ _ _ _ (by simp)).trans e2)))))
  · exact ((World.cell?_setCell_other _ _ _ _ (by simp)).trans ((World.cell?_setCell_other _ _ _ _ (by simp)).trans ((World.cell?_setCell_other _ _ _ _ (by simp)).trans ((World.cell?_setCell_other _ _ _ _ (by simp)).trans e3))))
  · exact ((World.cell?_setCell_other _ _ _ _ (by simp)).trans ((World.cell?_setCell_other _ _ _ _ (by simp)).trans ((World.cell?_setCell_other _ _ _ _ (by simp)).trans e4)))
  · exact ((World.cell?_setCell_other _ _ _ _ (by simp)).trans ((World.cell?_setCell_other _ _ _ _ (by simp)).trans e5))
  · exact ((World.cell?_setCell_other _ _ _ _ (by simp)).trans e6)
  · exact e7
theorem hat_far {wr : World} {rb b : Nat} {g0 : Nat → Int} (H : HAt wr b g0) (hne : rb ≠ b) (g : Nat → Int) : HAt ((((((((wr.setCell ⟨rb, 0, none⟩ (.int .u8 (g 0))).setCell ⟨rb, 1, none⟩ (.int .u8 (g 1))).setCell ⟨rb, 2, none⟩ (.int .u8 (g 2))).setCell ⟨rb, 3, none⟩ (.int .u8 (g 3))).setCell ⟨rb, 4, none⟩ (.int .u8 (g 4))).setCell ⟨rb, 5, none⟩ (.int .u8 (g 5))).setCell ⟨rb, 6, none⟩ (.int .u8 (g 6))).setCell ⟨rb, 7, none⟩ (.int .u8 (g 7))) b g0 := fun j hj => (World.cell?_setCell_other _ _ _ _ (by intro e; exact hne (congrArg Addr.block e))).trans ((World.cell?_setCell_other _ _ _ _ (by intro e; exact hne (congrArg Addr.block e))).trans ((World.cell?_setCell_other _ _ _ _ (by intro e; exact hne (congrArg Addr.block e))).trans ((World.cell?_setCell_other _ _ _ _ (by intro e; exact hne (congrArg Addr.block e))).trans ((World.cell?_setCell_other _ _ _ _ (by intro e; exact hne (congrArg Addr.block e))).trans ((World.cell?_setCell_other _ _ _ _ (by intro e; exact hne (congrArg Addr.block e))).trans ((World.cell?_setCell_other _ _ _ _ (by intro e; exact hne (congrArg Addr.block e))).trans ((World.cell?_setCell_other _ _ _ _ (by intro e; exact hne (congrArg Addr.block e))).trans (H j hj))))))))

set_option maxRecDepth 100000 in
set_option maxHeartbeats 8000000 in
theorem l06Weeks_any (h : Nat → Int) (need : Int) (n : Nat) (w : World) (h8 : Bytes8 h) (hn : n ≤ 100) :
    Calls Tryd.prog 26 #[hv h, .int .i64 need, .int .i64 n] w fun e w' => e = .returned (hv (wks need h n)) ∧ Below w.heap.size w w' := by
  have HW8 := Lib.hid fun k => wks_bytes h8 need k
  have HS := Lib.hid fun (k : Nat) => (show wks need h (k + 1) = weekF (wks need h k) need from rfl)
  obtain ⟨W0, hW0⟩ : ∃ W0, W0 = (w.alloc (.cells #[.int .u8 (h 0), .int .u8 (h 1), .int .u8 (h 2), .int .u8 (h 3), .int .u8 (h 4), .int .u8 (h 5), .int .u8 (h 6), .int .u8 (h 7)] 23)).alloc (.cells #[.int .u8 0, .int .u8 0, .int .u8 0, .int .u8 0, .int .u8 0, .int .u8 0, .int .u8 0, .int .u8 0] 23) := ⟨_, rfl⟩
  have A0 : Hid (HAt W0 w.heap.size (wks need h 0)) := Lib.hid (by
    rw [hW0]
    exact (hat_made w 23 h).below ((Below.refl _ _).alloc (Nat.le_refl _) _))
  have A1 : Hid (HAt W0 (w.heap.size + 1) (fun _ => 0)) := Lib.hid (by
    rw [hW0]
    have := hat_made (w.alloc (.cells #[.int .u8 (h 0), .int .u8 (h 1), .int .u8 (h 2), .int .u8 (h 3), .int .u8 (h 4), .int .u8 (h 5), .int .u8 (h 6), .int .u8 (h 7)] 23)) 23 (fun _ => 0)
    simpa only [World.size_alloc] using this)
  have F0 : Hid (∀ o : Nat, W0.frozen? ⟨w.heap.size, o, none⟩ = false) := Lib.hid fun o => by rw [hW0]; simp [go_sem]
  have F1 : Hid (∀ o : Nat, W0.frozen? ⟨w.heap.size + 1, o, none⟩ = false) := Lib.hid fun o => by rw [hW0]; simp [go_sem]
  have B0 : Hid (Below w.heap.size w W0) := Lib.hid (by rw [hW0]; go_grown)
  have HW0 := Lib.hid hW0
  clear hW0 h8
  go_enter Tryd.func26, Tryd.ntmps26
  go_wp2_with fail
  rw [← HW0.out]
  go_loopw [7] (fun i wr => ∃ k : Nat, k ≤ n ∧ i = .int .i64 k ∧ Hid (HAt wr w.heap.size (wks need h k)) ∧ Hid (HAt wr (w.heap.size + 1) (fun _ => 0)) ∧ Hid (∀ o : Nat, wr.frozen? ⟨w.heap.size, o, none⟩ = false) ∧ Hid (∀ o : Nat, wr.frozen? ⟨w.heap.size + 1, o, none⟩ = false) ∧ Hid (Below w.heap.size w wr)) (fun i _ => n - (intOf i).toNat)
  case atStart => exact ⟨0, by omega, rfl, A0, A1, F0, F1, B0⟩
  case round =>
    obtain ⟨k, hk, rfl, h0, h1, hf0, hf1, hB⟩ := hrel
    by_cases hlt : k < n
    · have hdn : decide ((k : Int) < (n : Int)) = true := decide_eq_true (by omega)
      have b0 : w.heap.size < wr.heap.size := World.block_lt_of_cell? wr _ (h0.out 0 (by omega))
      have b1 : w.heap.size + 1 < wr.heap.size := World.block_lt_of_cell? wr _ (h1.out 0 (by omega))
      obtain ⟨g, hg⟩ : ∃ g, g = weekF (wks need h k) need := ⟨_, rfl⟩
      have HK := Lib.hid ((HS.out k).trans hg.symm)
      have H8 := Lib.hid (HW8.out k)
      have HC := Lib.hid (l06Week_any w.heap.size (wks need h k) need wr H8.out h0.out)
      rw [← hg] at HC
      clear hg
      go_wp2_with fail
      refine HC.out.mono ?_
      rintro e w2 ⟨rfl, hC⟩
      have h0' := Lib.hid (h0.out.below hC)
      have h1' := Lib.hid (h1.out.below hC)
      have f0 : ∀ o : Nat, w2.frozen? ⟨w.heap.size, o, none⟩ = false := fun o => (hC.frozen (p := ⟨w.heap.size, o, none⟩) b0).trans (hf0.out o)
      have f1 : Hid (∀ o : Nat, w2.frozen? ⟨w.heap.size + 1, o, none⟩ = false) := Lib.hid fun o => (hC.frozen (p := ⟨w.heap.size + 1, o, none⟩) b1).trans (hf1.out o)
      have E := Lib.hid (hB.out.trans (hC.mono hB.out.size))
      have c0 := h0'.out 0 (by omega)
      have c1 := h0'.out 1 (by omega)
      have c2 := h0'.out 2 (by omega)
      have c3 := h0'.out 3 (by omega)
      have c4 := h0'.out 4 (by omega)
      have c5 := h0'.out 5 (by omega)
      have c6 := h0'.out 6 (by omega)
      have c7 := h0'.out 7 (by omega)
      clear hC h0 h1 hf0 hf1 hB
      have FF := Lib.hid f0
      have E8 : Hid (Below w.heap.size w ((((((((w2.setCell ⟨w.heap.size, 0, none⟩ (.int .u8 (g 0))).setCell ⟨w.heap.size, 1, none⟩ (.int .u8 (g 1))).setCell ⟨w.heap.size, 2, none⟩ (.int .u8 (g 2))).setCell ⟨w.heap.size, 3, none⟩ (.int .u8 (g 3))).setCell ⟨w.heap.size, 4, none⟩ (.int .u8 (g 4))).setCell ⟨w.heap.size, 5, none⟩ (.int .u8 (g 5))).setCell ⟨w.heap.size, 6, none⟩ (.int .u8 (g 6))).setCell ⟨w.heap.size, 7, none⟩ (.int .u8 (g 7)))) := Lib.hid (by go_grown; exact E.out)
      have P1 := Lib.hid (hat_put h0'.out g)
      have P2 : Hid (HAt ((((((((w2.setCell ⟨w.heap.size, 0, none⟩ (.int .u8 (g 0))).setCell ⟨w.heap.size, 1, none⟩ (.int .u8 (g 1))).setCell ⟨w.heap.size, 2, none⟩ (.int .u8 (g 2))).setCell ⟨w.heap.size, 3, none⟩ (.int .u8 (g 3))).setCell ⟨w.heap.size, 4, none⟩ (.int .u8 (g 4))).setCell ⟨w.heap.size, 5, none⟩ (.int .u8 (g 5))).setCell ⟨w.heap.size, 6, none⟩ (.int .u8 (g 6))).setCell ⟨w.heap.size, 7, none⟩ (.int .u8 (g 7))) (w.heap.size + 1) (fun _ => 0)) := Lib.hid (hat_far h1'.out (by omega) g)
      have P3 : Hid (∀ o : Nat, (((((((((w2.setCell ⟨w.heap.size, 0, none⟩ (.int .u8 (g 0))).setCell ⟨w.heap.size, 1, none⟩ (.int .u8 (g 1))).setCell ⟨w.heap.size, 2, none⟩ (.int .u8 (g 2))).setCell ⟨w.heap.size, 3, none⟩ (.int .u8 (g 3))).setCell ⟨w.heap.size, 4, none⟩ (.int .u8 (g 4))).setCell ⟨w.heap.size, 5, none⟩ (.int .u8 (g 5))).setCell ⟨w.heap.size, 6, none⟩ (.int .u8 (g 6))).setCell ⟨w.heap.size, 7, none⟩ (.int .u8 (g 7)))).frozen? ⟨w.heap.size, o, none⟩ = false) := Lib.hid fun o => by simpa using FF.out o
      have P4 : Hid (∀ o : Nat, (((((((((w2.setCell ⟨w.heap.size, 0, none⟩ (.int .u8 (g 0))).setCell ⟨w.heap.size, 1, none⟩ (.int .u8 (g 1))).setCell ⟨w.heap.size, 2, none⟩ (.int .u8 (g 2))).setCell ⟨w.heap.size, 3, none⟩ (.int .u8 (g 3))).setCell ⟨w.heap.size, 4, none⟩ (.int .u8 (g 4))).setCell ⟨w.heap.size, 5, none⟩ (.int .u8 (g 5))).setCell ⟨w.heap.size, 6, none⟩ (.int .u8 (g 6))).setCell ⟨w.heap.size, 7, none⟩ (.int .u8 (g 7)))).frozen? ⟨w.heap.size + 1, o, none⟩ = false) := Lib.hid fun o => by simpa using f1.out o
      go_wp2_with fail
      go_roundw
      case rel => exact ⟨k + 1, by omega, by go_num, by rw [HK.out]; exact P1, P2, P3, P4, E8⟩
      case measure => simp [intOf]; omega
    · have hkn : k = n := by omega
      subst hkn
      have c := h0.out
      have c0 := c 0 (by omega)
      have c1 := c 1 (by omega)
      have c2 := c 2 (by omega)
      have c3 := c 3 (by omega)
      have c4 := c 4 (by omega)
      have c5 := c 5 (by omega)
      have c6 := c 6 (by omega)
      have c7 := c 7 (by omega)
      have R := h1.out
      have r0 := R 0 (by omega)
      have r1 := R 1 (by omega)
      have r2 := R 2 (by omega)
      have r3 := R 3 (by omega)
      have r4 := R 4 (by omega)
      have r5 := R 5 (by omega)
      have r6 := R 6 (by omega)
      have r7 := R 7 (by omega)
      have fz : ∀ o : Nat, wr.frozen? ⟨w.heap.size + 1, o, none⟩ = false := hf1.out
      have E := Lib.hid hB.out
      obtain ⟨e0, e1, e2, e3, e4, e5, e6, e7⟩ := res8 (.int .u8 (wks need h k 0)) (.int .u8 (wks need h k 1)) (.int .u8 (wks need h k 2)) (.int .u8 (wks need h k 3)) (.int .u8 (wks need h k 4)) (.int .u8 (wks need h k 5)) (.int .u8 (wks need h k 6)) (.int .u8 (wks need h k 7)) r0 r1 r2 r3 r4 r5 r6 r7
      clear c R h0 h1 hf0 hf1 hB
      go_wp2
      refine bodyPost_ret (by simp [results, Tryd.results26, go_sem, e0, e1, e2, e3, e4, e5, e6, e7]; try rfl) rfl ?_
      refine ⟨rfl, ?_⟩
      go_grown
      exact E.out

set_option maxRecDepth 100000 in
set_option maxHeartbeats 8000000 in
theorem weeksLater_any (h : Nat → Int) (need : Int) (n : Nat) (w : World) (h8 : Bytes8 h) (hn : n ≤ 100) :
    Calls Tryd.prog 30 #[hv h, .int .i64 need, .int .i64 n] w fun e w' => e = .returned (hv (wks need h n)) ∧ Below w.heap.size w w' := by
  have HW8 := Lib.hid fun k => wks_bytes h8 need k
  have HS := Lib.hid fun (k : Nat) => (show wks need h (k + 1) = weekF (wks need h k) need from rfl)
  obtain ⟨W0, hW0⟩ : ∃ W0, W0 = (w.alloc (.cells #[.int .u8 (h 0), .int .u8 (h 1), .int .u8 (h 2), .int .u8 (h 3), .int .u8 (h 4), .int .u8 (h 5), .int .u8 (h 6), .int .u8 (h 7)] 23)).alloc (.cells #[.int .u8 0, .int .u8 0, .int .u8 0, .int .u8 0, .int .u8 0, .int .u8 0, .int .u8 0, .int .u8 0] 23) := ⟨_, rfl⟩
  have A0 : Hid (HAt W0 w.heap.size (wks need h 0)) := Lib.hid (by
    rw [hW0]
    exact (hat_made w 23 h).below ((Below.refl _ _).alloc (Nat.le_refl _) _))
  have A1 : Hid (HAt W0 (w.heap.size + 1) (fun _ => 0)) := Lib.hid (by
    rw [hW0]
    have := hat_made (w.alloc (.cells #[.int .u8 (h 0), .int .u8 (h 1), .int .u8 (h 2), .int .u8 (h 3), .int .u8 (h 4), .int .u8 (h 5), .int .u8 (h 6), .int .u8 (h 7)] 23)) 23 (fun _ => 0)
    simpa only [World.size_alloc] using this)
  have F0 : Hid (∀ o : Nat, W0.frozen? ⟨w.heap.size, o, none⟩ = false) := Lib.hid fun o => by rw [hW0]; simp [go_sem]
  have F1 : Hid (∀ o : Nat, W0.frozen? ⟨w.heap.size + 1, o, none⟩ = false) := Lib.hid fun o => by rw [hW0]; simp [go_sem]
  have B0 : Hid (Below w.heap.size w W0) := Lib.hid (by rw [hW0]; go_grown)
  have HW0 := Lib.hid hW0
  clear hW0 h8
  go_enter Tryd.func30, Tryd.ntmps30
  go_wp2_with fail
  rw [← HW0.out]
  go_loopw [8] (fun i wr => ∃ k : Nat, k ≤ n ∧ i = .int .i64 k ∧ Hid (HAt wr w.heap.size (wks need h k)) ∧ Hid (HAt wr (w.heap.size + 1) (fun _ => 0)) ∧ Hid (∀ o : Nat, wr.frozen? ⟨w.heap.size, o, none⟩ = false) ∧ Hid (∀ o : Nat, wr.frozen? ⟨w.heap.size + 1, o, none⟩ = false) ∧ Hid (Below w.heap.size w wr)) (fun i _ => n - (intOf i).toNat)
  case atStart => exact ⟨0, by omega, rfl, A0, A1, F0, F1, B0⟩
  case round =>
    obtain ⟨k, hk, rfl, h0, h1, hf0, hf1, hB⟩ := hrel
    by_cases hlt : k < n
    · have hdn : decide ((k : Int) < (n : Int)) = true := decide_eq_true (by omega)
      have b0 : w.heap.size < wr.heap.size := World.block_lt_of_cell? wr _ (h0.out 0 (by omega))
      have b1 : w.heap.size + 1 < wr.heap.size := World.block_lt_of_cell? wr _ (h1.out 0 (by omega))
      obtain ⟨g, hg⟩ : ∃ g, g = weekF (wks need h k) need := ⟨_, rfl⟩
      have HK := Lib.hid ((HS.out k).trans hg.symm)
      have H8 := Lib.hid (HW8.out k)
      have d0 := h0.out 0 (by omega)
      have d1 := h0.out 1 (by omega)
      have d2 := h0.out 2 (by omega)
      have d3 := h0.out 3 (by omega)
      have d4 := h0.out 4 (by omega)
      have d5 := h0.out 5 (by omega)
      have d6 := h0.out 6 (by omega)
      have d7 := h0.out 7 (by omega)
      have HC := Lib.hid (weekLater_any (wks need h k) need wr H8.out)
      rw [← hg] at HC
      clear hg
      go_wp2_with fail
      refine HC.out.mono ?_
      rintro e w2 ⟨rfl, hC⟩
      have h0' := Lib.hid (h0.out.below hC)
      have h1' := Lib.hid (h1.out.below hC)
      have f0 : ∀ o : Nat, w2.frozen? ⟨w.heap.size, o, none⟩ = false := fun o => (hC.frozen (p := ⟨w.heap.size, o, none⟩) b0).trans (hf0.out o)
      have f1 : Hid (∀ o : Nat, w2.frozen? ⟨w.heap.size + 1, o, none⟩ = false) := Lib.hid fun o => (hC.frozen (p := ⟨w.heap.size + 1, o, none⟩) b1).trans (hf1.out o)
      have E := Lib.hid (hB.out.trans (hC.mono hB.out.size))
      have c0 := h0'.out 0 (by omega)
      have c1 := h0'.out 1 (by omega)
      have c2 := h0'.out 2 (by omega)
      have c3 := h0'.out 3 (by omega)
      have c4 := h0'.out 4 (by omega)
      have c5 := h0'.out 5 (by omega)
      have c6 := h0'.out 6 (by omega)
      have c7 := h0'.out 7 (by omega)
      clear hC h0 h1 hf0 hf1 hB d0 d1 d2 d3 d4 d5 d6 d7
      have FF := Lib.hid f0
      have E8 : Hid (Below w.heap.size w ((((((((w2.setCell ⟨w.heap.size, 0, none⟩ (.int .u8 (g 0))).setCell ⟨w.heap.size, 1, none⟩ (.int .u8 (g 1))).setCell ⟨w.heap.size, 2, none⟩ (.int .u8 (g 2))).setCell ⟨w.heap.size, 3, none⟩ (.int .u8 (g 3))).setCell ⟨w.heap.size, 4, none⟩ (.int .u8 (g 4))).setCell ⟨w.heap.size, 5, none⟩ (.int .u8 (g 5))).setCell ⟨w.heap.size, 6, none⟩ (.int .u8 (g 6))).setCell ⟨w.heap.size, 7, none⟩ (.int .u8 (g 7)))) := Lib.hid (by go_grown; exact E.out)
      have P1 := Lib.hid (hat_put h0'.out g)
      have P2 : Hid (HAt ((((((((w2.setCell ⟨w.heap.size, 0, none⟩ (.int .u8 (g 0))).setCell ⟨w.heap.size, 1, none⟩ (.int .u8 (g 1))).setCell ⟨w.heap.size, 2, none⟩ (.int .u8 (g 2))).setCell ⟨w.heap.size, 3, none⟩ (.int .u8 (g 3))).setCell ⟨w.heap.size, 4, none⟩ (.int .u8 (g 4))).setCell ⟨w.heap.size, 5, none⟩ (.int .u8 (g 5))).setCell ⟨w.heap.size, 6, none⟩ (.int .u8 (g 6))).setCell ⟨w.heap.size, 7, none⟩ (.int .u8 (g 7))) (w.heap.size + 1) (fun _ => 0)) := Lib.hid (hat_far h1'.out (by omega) g)
      have P3 : Hid (∀ o : Nat, (((((((((w2.setCell ⟨w.heap.size, 0, none⟩ (.int .u8 (g 0))).setCell ⟨w.heap.size, 1, none⟩ (.int .u8 (g 1))).setCell ⟨w.heap.size, 2, none⟩ (.int .u8 (g 2))).setCell ⟨w.heap.size, 3, none⟩ (.int .u8 (g 3))).setCell ⟨w.heap.size, 4, none⟩ (.int .u8 (g 4))).setCell ⟨w.heap.size, 5, none⟩ (.int .u8 (g 5))).setCell ⟨w.heap.size, 6, none⟩ (.int .u8 (g 6))).setCell ⟨w.heap.size, 7, none⟩ (.int .u8 (g 7)))).frozen? ⟨w.heap.size, o, none⟩ = false) := Lib.hid fun o => by simpa using FF.out o
      have P4 : Hid (∀ o : Nat, (((((((((w2.setCell ⟨w.heap.size, 0, none⟩ (.int .u8 (g 0))).setCell ⟨w.heap.size, 1, none⟩ (.int .u8 (g 1))).setCell ⟨w.heap.size, 2, none⟩ (.int .u8 (g 2))).setCell ⟨w.heap.size, 3, none⟩ (.int .u8 (g 3))).setCell ⟨w.heap.size, 4, none⟩ (.int .u8 (g 4))).setCell ⟨w.heap.size, 5, none⟩ (.int .u8 (g 5))).setCell ⟨w.heap.size, 6, none⟩ (.int .u8 (g 6))).setCell ⟨w.heap.size, 7, none⟩ (.int .u8 (g 7)))).frozen? ⟨w.heap.size + 1, o, none⟩ = false) := Lib.hid fun o => by simpa using f1.out o
      go_wp2_with fail
      go_roundw
      case rel => exact ⟨k + 1, by omega, by go_num, by rw [HK.out]; exact P1, P2, P3, P4, E8⟩
      case measure => simp [intOf]; omega
    · have hkn : k = n := by omega
      subst hkn
      have c := h0.out
      have c0 := c 0 (by omega)
      have c1 := c 1 (by omega)
      have c2 := c 2 (by omega)
      have c3 := c 3 (by omega)
      have c4 := c 4 (by omega)
      have c5 := c 5 (by omega)
      have c6 := c 6 (by omega)
      have c7 := c 7 (by omega)
      have R := h1.out
      have r0 := R 0 (by omega)
      have r1 := R 1 (by omega)
      have r2 := R 2 (by omega)
      have r3 := R 3 (by omega)
      have r4 := R 4 (by omega)
      have r5 := R 5 (by omega)
      have r6 := R 6 (by omega)
      have r7 := R 7 (by omega)
      have fz : ∀ o : Nat, wr.frozen? ⟨w.heap.size + 1, o, none⟩ = false := hf1.out
      have E := Lib.hid hB.out
      obtain ⟨e0, e1, e2, e3, e4, e5, e6, e7⟩ := res8 (.int .u8 (wks need h k 0)) (.int .u8 (wks need h k 1)) (.int .u8 (wks need h k 2)) (.int .u8 (wks need h k 3)) (.int .u8 (wks need h k 4)) (.int .u8 (wks need h k 5)) (.int .u8 (wks need h k 6)) (.int .u8 (wks need h k 7)) r0 r1 r2 r3 r4 r5 r6 r7
      clear c R h0 h1 hf0 hf1 hB
      go_wp2
      refine bodyPost_ret (by simp [results, Tryd.results30, go_sem, e0, e1, e2, e3, e4, e5, e6, e7]; try rfl) rfl ?_
      refine ⟨rfl, ?_⟩
      go_grown
      exact E.out
end Go.Proofs.YtcdjjijagibhlaaDoor
