/-
  No statement is proved here: how much yarn a fabric needs, in the program; condition: its errors lie where its text lays them; at most 1048576 rows of at most 1048576 bytes.
-/
import Derived.Test.YtilbadnnmhcdoaaDoorYarnS0
import Derived.Test.YtilbadnnmhcdoaaDoorKnitP
namespace Go.Proofs.YtilbadnnmhcdoaaDoor
open Go.ChangeShapes Go.WideShapes Go.ChangeAt Go.RowKit

set_option maxRecDepth 100000 in
set_option maxHeartbeats 4000000 in
theorem rowsYarn_any (v : Value) (M : List ByteArray) (g : Int) (w : World) (h : Strs w v M) (hn : M.length ≤ 30) (hs : ∀ j, j < M.length → (rowAt M j).size ≤ 120) (ha : ∀ j, j < M.length → allSt (rowAt M j) = true) (hg1 : 1 ≤ g) (hg2 : g ≤ 100) :
    Calls Tryd.prog 51 #[v, .int .i64 g] w fun e w' => e = .returned (.int .i64 (g * sumN M M.length)) ∧ Below w.heap.size w w' := by
  have HSrc : Hid (∃ a1 cp, v = .slice a1 M.length cp ∧ ∀ k, k < M.length → ∃ b off, a1 = some ⟨b, off, none⟩ ∧ b < w.heap.size ∧ w.cell? ⟨b, off + k, none⟩ = some (.string (rowAt M k))) := by
    rcases h with ⟨a1, cp, rfl, rfl⟩ | ⟨b, off, cap, rfl, h0, hb, hc⟩
    · exact ⟨a1, cp, rfl, fun k hk => absurd hk (Nat.not_lt_zero k)⟩
    · exact ⟨_, cap, rfl, fun k hk => ⟨b, off, rfl, hb, hc k hk⟩⟩
  obtain ⟨a1, cp, rfl, hsrc⟩ := HSrc.out
  have HSR := Lib.hid hsrc
  have HS2 := Lib.hid hs
  have HA := Lib.hid ha
  have HSB := Lib.hid fun k (hk : k ≤ M.length) => sumN_bd (L := M) (k := k) fun j hj => hs j (by omega)
  have HST := Lib.hid fun k => show g * sumN M (k + 1) = g * sumN M k + g * needsF (rowAt M k) from Int.mul_add g _ _
  have HNB := Lib.hid fun k => show 0 ≤ needsF (rowAt M k) ∧ needsF (rowAt M k) ≤ 6 * (rowAt M k).size from needs_bd (rowAt M k) (rowAt M k).size
  have HZ := Lib.hid (show g * sumN M 0 = 0 by simp [sumN])
  obtain ⟨R, hR⟩ : ∃ R, R = g * sumN M M.length := ⟨_, rfl⟩
  have HR := Lib.hid hR
  rw [← hR]
  clear hR
  obtain ⟨n, hln⟩ : ∃ n, n = M.length := ⟨_, rfl⟩
  rw [← hln] at HSR hn HS2 HA HSB HR ⊢
  clear h hs ha HSrc hsrc hln
  have HGB := Lib.hid fun k (hk : k ≤ n) => mul_bd (a := g) (b := sumN M k) (A := 100) (B := 720 * k) (by omega) hg2 (HSB.out k hk).1 (HSB.out k hk).2
  go_enter Tryd.func51, Tryd.ntmps51
  go_wp2_with fail
  go_loopw [5, 10] (fun t i wr => ∃ k : Nat, k ≤ n ∧ i = .int .i64 k ∧ t = .int .i64 (g * sumN M k) ∧ Hid (Below w.heap.size w wr)) (fun _ i _ => n - (intOf i).toNat)
  case atStart => exact ⟨0, Nat.zero_le _, rfl, by rw [HZ.out], Below.refl _ _⟩
  case round =>
    obtain ⟨k, hk, rfl, rfl, hB⟩ := hrel
    have hb2 := HGB.out k hk
    by_cases hlt : k < n
    · obtain ⟨b, off, rfl, hbw, hcell⟩ := HSR.out k hlt
      have c1 : wr.cell? ⟨b, off + k, none⟩ = some (.string (rowAt M k)) := kept hB.out hbw hcell
      have hsz := HS2.out k hlt
      have HN := Lib.hid fun wx => yarn_total (rowAt M k) wx (HA.out k hlt) (by omega)
      have hnb := HNB.out k
      have HT2 := Lib.hid (HST.out k)
      generalize rowAt M k = s at *
      generalize needsF s = y at *
      have hyb := mul_bd (a := g) (b := y) (A := 100) (B := 720) (by omega) hg2 hnb.1 (by omega)
      generalize g * sumN M k = m at *
      obtain ⟨q, hq⟩ : ∃ q, q = g * y := ⟨_, rfl⟩
      rw [← hq] at hyb HT2
      have u1 : ∀ [Inhabited Nat], IntKind.i64.wrap (g * y) = q := by intro _; rw [← hq]; exact (IntWalk.i64_in _ (by omega)).trans (by omega)
      have u2 : ∀ [Inhabited Nat], wrap64 (g * y) = q := by intro _; rw [← hq]; exact (IntWalk.wrap64_in _ (by omega)).trans (by omega)
      have hkn : (k : Int) ≤ 30 := by omega
      clear hcell hq
      go_wp2_with fail
      refine (HN.out _).mono ?_
      rintro e w3 ⟨rfl, hB3⟩
      have B4 := Lib.hid (hB.out.trans (hB3.mono hB.out.size))
      clear hB3
      go_wp2
      go_roundw
      case rel => exact ⟨k + 1, by omega, by go_num, by rw [HT2.out], B4⟩
      case measure => simp [intOf]; omega
    · have hkn : k = n := by omega
      subst hkn
      have HR2 := HR
      clear HR
      generalize g * sumN M k = m at *
      go_wp2
      go_ret
      exact ⟨ret_int HR2.out.symm, hB.out⟩

theorem hb3_at {w W : World} (h : Below w.heap.size w W) (x y z : Value) (t : TypeId) : Hb3 w (W.alloc (.cells #[x, y, z] t)) W.heap.size x y z := ⟨by simp [go_sem], by simp [go_sem], by simp [go_sem], h.alloc h.size _, by simp⟩
theorem yarn_same (c g S : Int) : (4 * c + S) * g = 4 * g * c + g * S := by
  rw [Int.add_mul, Int.mul_comm S g, Int.mul_assoc, Int.mul_assoc, Int.mul_comm c g]
end Go.Proofs.YtilbadnnmhcdoaaDoor
