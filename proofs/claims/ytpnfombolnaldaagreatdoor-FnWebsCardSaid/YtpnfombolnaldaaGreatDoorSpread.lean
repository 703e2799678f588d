/-
  No statement is proved here: the greatest and the least of several numbers, as the program and as the document's own text take them; condition: at least one number, from 0 to 10000, at most 1048576 of them.
-/
import Derived.Test.YtpnfombolnaldaaGreatDoorSum
namespace Go.Proofs.YtpnfombolnaldaaGreatDoor
open Go.ChangeShapes Go.WideShapes Go.ChangeAt Go.RowKit


def mxTo (zs : List Int) (k : Nat) : Int := (zs.take k).foldl max (zs.getD 0 0)
def mnTo (zs : List Int) (k : Nat) : Int := (zs.take k).foldl min (zs.getD 0 0)
theorem mxTo_step (zs : List Int) (k : Nat) (hk : k < zs.length) : mxTo zs (k + 1) = max (mxTo zs k) (zs.getD k 0) := by
  rw [mxTo, take_step hk, List.foldl_append]
  rfl
theorem mnTo_step (zs : List Int) (k : Nat) (hk : k < zs.length) : mnTo zs (k + 1) = min (mnTo zs k) (zs.getD k 0) := by
  rw [mnTo, take_step hk, List.foldl_append]
  rfl
theorem mxTo_one (zs : List Int) (h : 0 < zs.length) : mxTo zs 1 = zs.getD 0 0 := by
  rw [mxTo_step zs 0 h]
  show max (zs.getD 0 0) (zs.getD 0 0) = _
  omega
theorem mnTo_one (zs : List Int) (h : 0 < zs.length) : mnTo zs 1 = zs.getD 0 0 := by
  rw [mnTo_step zs 0 h]
  show min (zs.getD 0 0) (zs.getD 0 0) = _
  omega
theorem mxTo_bd {zs : List Int} {m : Int} (h : upTo zs m = true) (h0 : 0 < zs.length) : ∀ k, k ≤ zs.length → 0 ≤ mxTo zs k ∧ mxTo zs k ≤ m
  | 0, _ => upTo_get h 0 h0
  | k + 1, hk => by
    have ih := mxTo_bd h h0 k (by omega)
    have hz := upTo_get h k (by omega)
    rw [mxTo_step zs k (by omega)]
    omega
theorem mnTo_bd {zs : List Int} {m : Int} (h : upTo zs m = true) (h0 : 0 < zs.length) : ∀ k, k ≤ zs.length → 0 ≤ mnTo zs k ∧ mnTo zs k ≤ m
  | 0, _ => upTo_get h 0 h0
  | k + 1, hk => by
    have ih := mnTo_bd h h0 k (by omega)
    have hz := upTo_get h k (by omega)
    rw [mnTo_step zs k (by omega)]
    omega

set_option maxRecDepth 100000 in
set_option maxHeartbeats 1000000 in
theorem slMax_any (v : Value) (zs : List Int) (w : World) (h : Ints w v zs) (hn : zs.length ≤ 1048576) (h0 : 0 < zs.length) :
    Calls Tryz.prog 77 #[v] w fun e w' => e = .returned (.int .i64 (mxTo zs zs.length)) ∧ w = w' := by
  obtain ⟨b1, o1, c1, rfl, hc1⟩ := h.pos h0
  have U1 := Lib.hid (mxTo_step zs)
  have V1 := Lib.hid (mxTo_one zs h0)
  obtain ⟨n, hln⟩ : ∃ n, n = zs.length := ⟨_, rfl⟩
  rw [← hln] at U1 hc1 hn h0 ⊢
  have HC := Lib.hid hc1
  have c0 := hc1 0 h0
  rw [Nat.add_zero] at c0
  clear hc1 hln h
  obtain ⟨z0, hz0⟩ : ∃ z0, z0 = zs.getD 0 0 := ⟨_, rfl⟩
  rw [← hz0] at c0 V1
  clear hz0
  go_enter Tryz.func77, Tryz.ntmps77
  go_wp2
  go_loop [3, 4] (fun m i => ∃ (k : Nat) (q : Int), k ≤ n ∧ i = .int .i64 k ∧ m = .int .i64 q ∧ Hid (q = mxTo zs k)) (fun _ i => n - (intOf i).toNat)
  case atStart => exact ⟨1, z0, h0, rfl, rfl, V1.out.symm⟩
  case round =>
    obtain ⟨k, q, hk, rfl, rfl, hq⟩ := hrel
    by_cases hlt : k < n
    · have c1 : w.cell? ⟨b1, o1 + k, none⟩ = some (.int .i64 (zs.getD k 0)) := HC.out k hlt
      have u1 := Lib.hid (U1.out k hlt)
      rw [← hq.out] at u1
      obtain ⟨z, hz⟩ : ∃ z, z = zs.getD k 0 := ⟨_, rfl⟩
      rw [← hz] at c1 u1
      clear hz hq c0
      go_wp2
      go_round
      case rel => exact ⟨k + 1, max q z, by omega, by go_num, by go_num, u1.out.symm⟩
      case measure => simp [intOf]; omega
    · have hkn : k = n := by omega
      subst hkn
      go_wp2
      go_ret
      exact ⟨ret_int hq.out, rfl⟩

set_option maxRecDepth 100000 in
set_option maxHeartbeats 1000000 in
theorem slMin_any (v : Value) (zs : List Int) (w : World) (h : Ints w v zs) (hn : zs.length ≤ 1048576) (h0 : 0 < zs.length) :
    Calls Tryz.prog 78 #[v] w fun e w' => e = .returned (.int .i64 (mnTo zs zs.length)) ∧ w = w' := by
  obtain ⟨b1, o1, c1, rfl, hc1⟩ := h.pos h0
  have U1 := Lib.hid (mnTo_step zs)
  have V1 := Lib.hid (mnTo_one zs h0)
  obtain ⟨n, hln⟩ : ∃ n, n = zs.length := ⟨_, rfl⟩
  rw [← hln] at U1 hc1 hn h0 ⊢
  have HC := Lib.hid hc1
  have c0 := hc1 0 h0
  rw [Nat.add_zero] at c0
  clear hc1 hln h
  obtain ⟨z0, hz0⟩ : ∃ z0, z0 = zs.getD 0 0 := ⟨_, rfl⟩
  rw [← hz0] at c0 V1
  clear hz0
  go_enter Tryz.func78, Tryz.ntmps78
  go_wp2
  go_loop [3, 4] (fun m i => ∃ (k : Nat) (q : Int), k ≤ n ∧ i = .int .i64 k ∧ m = .int .i64 q ∧ Hid (q = mnTo zs k)) (fun _ i => n - (intOf i).toNat)
  case atStart => exact ⟨1, z0, h0, rfl, rfl, V1.out.symm⟩
  case round =>
    obtain ⟨k, q, hk, rfl, rfl, hq⟩ := hrel
    by_cases hlt : k < n
    · have c1 : w.cell? ⟨b1, o1 + k, none⟩ = some (.int .i64 (zs.getD k 0)) := HC.out k hlt
      have u1 := Lib.hid (U1.out k hlt)
      rw [← hq.out] at u1
      obtain ⟨z, hz⟩ : ∃ z, z = zs.getD k 0 := ⟨_, rfl⟩
      rw [← hz] at c1 u1
      clear hz hq c0
      go_wp2
      go_round
      case rel => exact ⟨k + 1, min q z, by omega, by go_num, by go_num, u1.out.symm⟩
      case measure => simp [intOf]; omega
    · have hkn : k = n := by omega
      subst hkn
      go_wp2
      go_ret
      exact ⟨ret_int hq.out, rfl⟩
end Go.Proofs.YtpnfombolnaldaaGreatDoor
