/-
  No statement is proved here: how long plies are, as the program and as the document's own text tell it; condition: the errors lie where the text lays them; at most 1048576 yarns.
-/
import Derived.Test.YtpkjogenkdckpaaDoorPlies
import Derived.OwnWalk
namespace Go.Proofs.YtpkjogenkdckpaaDoor
open Go.ChangeShapes Go.WideShapes Go.ChangeAt Go.RowKit

/-- The least of f 0 .. f k. -/
def minTo (f : Nat → Int) : Nat → Int
  | 0 => f 0
  | k + 1 => min (minTo f k) (f (k + 1))
theorem minTo_bd {f : Nat → Int} {lo hi : Int} : ∀ k, (∀ j, j ≤ k → lo ≤ f j ∧ f j ≤ hi) → lo ≤ minTo f k ∧ minTo f k ≤ hi
  | 0, h => h 0 (by omega)
  | k + 1, h => by
    have ih := minTo_bd (f := f) (lo := lo) (hi := hi) k fun j hj => h j (by omega)
    have := h (k + 1) (by omega)
    simp only [minTo]
    omega
/-- The shortest yarn. -/
def shortest (ys : List Yn) : Int := minTo (fun j => (yat ys j).1) (ys.length - 1)
theorem shortest_bd {ys : List Yn} (h : allY ys = true) (h0 : 0 < ys.length) : 1 ≤ shortest ys ∧ shortest ys ≤ 5000 :=
  minTo_bd _ fun j hj => (okR_of (allY_get h j (by omega))).1
/-- How long plies are, and the code. -/
def pliedF (ys : List Yn) (t : Int) : Int × Int := if pliesF ys t = 0 then (if shortest ys - (t.natAbs : Int) / 50 < 1 then (0, 6) else (shortest ys - (t.natAbs : Int) / 50, 0)) else (0, pliesF ys t)
theorem pliedF_yes {ys : List Yn} {t : Int} (h : pliesF ys t = 0) (h' : ¬ shortest ys - (t.natAbs : Int) / 50 < 1) : pliedF ys t = (shortest ys - (t.natAbs : Int) / 50, 0) := by unfold pliedF; rw [if_pos h, if_neg h']
theorem pliedF_short {ys : List Yn} {t : Int} (h : pliesF ys t = 0) (h' : shortest ys - (t.natAbs : Int) / 50 < 1) : pliedF ys t = (0, 6) := by unfold pliedF; rw [if_pos h, if_pos h']
theorem pliedF_no {ys : List Yn} {t : Int} (h : ¬ pliesF ys t = 0) : pliedF ys t = (0, pliesF ys t) := by unfold pliedF; rw [if_neg h]

theorem l00Min_any (a b : Int) (w : World) :
    Calls Tryd.prog 71 #[.int .i64 a, .int .i64 b] w fun e w' => e = .returned (.int .i64 (min a b)) ∧ w = w' := by
  by_cases h0 : a < b
  · go_enter Tryd.func71, Tryd.ntmps71
    go_wp2
    go_ret
    exact ⟨ret_int (by omega), rfl⟩
  · go_enter Tryd.func71, Tryd.ntmps71
    go_wp2
    go_ret
    exact ⟨ret_int (by omega), rfl⟩

set_option maxRecDepth 100000 in
set_option maxHeartbeats 2000000 in
theorem l03Plied_any (v : Value) (ys : List Yn) (t : Int) (w : World) (h : Yarns w v ys) (hn : ys.length ≤ 1048576) (h0 : 0 < ys.length) (hv : allY ys = true) (ht : -2000 ≤ t ∧ t ≤ 2000) :
    Calls Tryd.prog 57 #[v, .int .i64 t] w fun e w' => e = .returned (.int .i64 (shortest ys - (t.natAbs : Int) / 50)) ∧ w = w' := by
  obtain ⟨b, off, cap, rfl, hb, hc⟩ := h.pos h0
  have H16 := Lib.hid h.1
  have HM := Lib.hid (show ∀ k, k < ys.length → 1 ≤ minTo (fun j => (yat ys j).1) k ∧ minTo (fun j => (yat ys j).1) k ≤ 5000 from fun k hk => minTo_bd k fun j hj => (okR_of (allY_get hv j (by omega))).1)
  have HS := Lib.hid (show shortest ys = minTo (fun j => (yat ys j).1) (ys.length - 1) from rfl)
  generalize shortest ys = sh at *
  obtain ⟨f, hf⟩ : ∃ f : Nat → Int, f = fun j => (yat ys j).1 := ⟨_, rfl⟩
  have HF := Lib.hid (show ∀ j, (yat ys j).1 = f j from fun j => by rw [hf])
  have HU := Lib.hid (show ∀ m, 1 ≤ m → minTo f m = min (minTo f (m - 1)) (f m) from fun m hm => by obtain ⟨k, rfl⟩ : ∃ k, m = k + 1 := ⟨m - 1, by omega⟩; rfl)
  rw [← hf] at HM HS
  have hR := fun j => (h.1 j).1
  have HR := Lib.hid hR
  clear hf hv h hR
  obtain ⟨t1, t2⟩ := ht
  obtain ⟨n, hln⟩ : ∃ n, n = ys.length := ⟨_, rfl⟩
  rw [← hln] at HM HS hc hn h0 ⊢
  have HC := Lib.hid hc
  have c0 : w.cell? ⟨b, off, none⟩ = some (.int .i16 (f 0)) := by rw [← HF.out 0]; simpa using (hc 0 h0).1
  have r0 := HR.out 0
  rw [HF.out 0] at r0
  clear hc hln
  go_enter Tryd.func57, Tryd.ntmps57
  go_wp2
  go_loop [5, 6] (fun s i => ∃ (m : Nat) (q : Int), 1 ≤ m ∧ m ≤ n ∧ i = .int .i64 m ∧ s = .int .i64 q ∧ Hid (q = minTo f (m - 1))) (fun _ i => n - (intOf i).toNat)
  case atStart => exact ⟨1, f 0, Nat.le_refl _, h0, rfl, rfl, by rfl⟩
  case round =>
    obtain ⟨m, q, hm1, hk, rfl, rfl, hq⟩ := hrel
    by_cases hlt : m < n
    · obtain ⟨p1, p2, p3⟩ := HC.out m hlt
      have r1 := HR.out m
      rw [HF.out m] at p1 r1
      have HU2 := Lib.hid (HU.out m hm1)
      rw [← hq.out] at HU2
      generalize f m = z at *
      go_wp2_with fail
      refine (l00Min_any _ _ _).mono ?_
      rintro e w' ⟨rfl, rfl⟩
      go_wp2_with fail
      go_round
      case rel => exact ⟨m + 1, min q z, by omega, by omega, by go_num, rfl, HU2.out.symm⟩
      case measure => simp [intOf]; omega
    · have hkn : m = n := by omega
      subst hkn
      have HQ := Lib.hid (hq.out.trans HS.out.symm)
      have hmm := HM.out (m - 1) (by omega)
      rw [← hq.out] at hmm
      clear hq
      go_wp2_with fail
      refine (l01Size_any _ _ (by omega) (by omega)).mono ?_
      rintro e w' ⟨rfl, rfl⟩
      go_wp2_with fail
      go_ret
      refine ⟨ret_int ?_, rfl⟩
      rw [HQ.out]
end Go.Proofs.YtpkjogenkdckpaaDoor
