/-
  No statement is proved here: webs rolled, in the program and in the document's own text; condition: the web is valid.
-/
import Derived.Test.YtpnfombolnaldaaGreatDoorGrow
namespace Go.Proofs.YtpnfombolnaldaaGreatDoor
open Go.ChangeShapes Go.WideShapes Go.ChangeAt Go.RowKit

attribute [local go_sem ↓] Go.wp_at_zero Go.wp_at_succ

/-- By how many places. -/
def rollP (b : Int) (n : Nat) : Nat := ((b.tmod (n : Int) + (n : Int)) % (n : Int)).toNat
theorem tmod_bd (b : Int) (n : Nat) (hn : 0 < n) : -(n : Int) < b.tmod (n : Int) ∧ b.tmod (n : Int) < (n : Int) := by
  have h := Int.natAbs_tmod b (n : Int)
  have h2 : b.natAbs % (n : Int).natAbs < (n : Int).natAbs := Nat.mod_lt _ (by omega)
  omega
theorem rollP_lt (b : Int) (n : Nat) (hn : 0 < n) : rollP b n < n := by
  have h1 := Int.emod_lt_of_pos (b.tmod (n : Int) + (n : Int)) (show (0 : Int) < (n : Int) by omega)
  have h2 := Int.emod_nonneg (b.tmod (n : Int) + (n : Int)) (show (n : Int) ≠ 0 by omega)
  unfold rollP
  omega
theorem rollP_eq (b : Int) (n : Nat) (hn : 0 < n) : (b.tmod (n : Int) + (n : Int)) % (n : Int) = (rollP b n : Int) := by
  have h2 := Int.emod_nonneg (b.tmod (n : Int) + (n : Int)) (show (n : Int) ≠ 0 by omega)
  unfold rollP
  omega
theorem rollP_eq2 (b : Int) (n : Nat) (hn : 0 < n) : (b.tmod (n : Int) + (n : Int)).tmod (n : Int) = (rollP b n : Int) := by
  have h := tmod_bd b n hn
  rw [Int.tmod_eq_emod_of_nonneg (by omega), rollP_eq b n hn]

/-- A web rolled. -/
def rollL (zs : List Int) (p : Nat) : List Int := zs.drop (zs.length - p) ++ zs.take (zs.length - p)
theorem rollL_length (zs : List Int) (p : Nat) : (rollL zs p).length = zs.length := by
  first | (simp [rollL]; done) | (simp [rollL]; omega)
theorem rollL_get (zs : List Int) (p j : Nat) (hp : p < zs.length) (hj : j < zs.length) : (rollL zs p).getD j 0 = zs.getD ((j + zs.length - p) % zs.length) 0 := by
  have ld : (zs.drop (zs.length - p)).length = p := by rw [List.length_drop]; omega
  by_cases h : j < p
  · rw [Nat.mod_eq_of_lt (by omega)]
    rw [rollL, List.getD, List.getElem?_append_left (by omega), ← List.getD, getD_drop]
    congr 1
    omega
  · rw [show j + zs.length - p = (j - p) + zs.length by omega, Nat.add_mod_right, Nat.mod_eq_of_lt (by omega)]
    rw [rollL, List.getD, List.getElem?_append_right (by omega), ld, ← List.getD, getD_take _ _ _ (by omega)]
theorem roll_step (zs : List Int) (p k : Nat) (hp : p < zs.length) (hk : k < zs.length) : (rollL zs p).take (k + 1) = (rollL zs p).take k ++ [zs.getD ((k + zs.length - p) % zs.length) 0] := by
  rw [take_step (by rw [rollL_length]; exact hk), rollL_get zs p k hp hk]
theorem roll_all (zs : List Int) (p : Nat) : (rollL zs p).take zs.length = rollL zs p := by
  have h := List.take_length (l := rollL zs p)
  rw [rollL_length] at h
  exact h

set_option maxRecDepth 100000 in
set_option maxHeartbeats 2000000 in
theorem l02Roll_any (v : Value) (zs : List Int) (b : Int) (w : World) (h : Ints w v zs) (hok : okW zs = true) (hb64 : IntKind.i64.has b) :
    Calls Tryz.prog 45 #[v, .int .i64 b] w fun e w' => ∃ r, e = .returned r ∧ Own w' w.heap.size r (rollL zs (rollP b zs.length)) ∧ Below w.heap.size w w' := by
  obtain ⟨i0, hi, hz0, hz1, hz2⟩ := info_parts info64
  have hl := okW_len hok
  have hbw0 := h.blk (by omega)
  obtain ⟨b1, o1, c1, rfl, hc1⟩ := h.pos (by omega)
  have hbw : b1 < w.heap.size := hbw0 b1 o1 none _ _ rfl
  have tb := tmod_bd b zs.length (by omega)
  have pl := rollP_lt b zs.length (by omega)
  have pe := rollP_eq b zs.length (by omega)
  have pe2 := rollP_eq2 b zs.length (by omega)
  unfold Own
  rw [rollL_length]
  obtain ⟨p, hp⟩ : ∃ p, p = rollP b zs.length := ⟨_, rfl⟩
  rw [← hp] at pl pe pe2 ⊢
  have U1 := Lib.hid (fun k hk => roll_step zs p k pl hk)
  have U3 := Lib.hid (roll_all zs p)
  obtain ⟨n, hln⟩ : ∃ n, n = zs.length := ⟨_, rfl⟩
  rw [← hln] at U1 U3 hc1 hl tb pl pe pe2 ⊢
  have HC := Lib.hid hc1
  obtain ⟨q, hq⟩ : ∃ q, b.tmod (n : Int) = q := ⟨_, rfl⟩
  rw [hq] at tb pe pe2
  clear h hbw0 hok hp hc1 hln
  have hb64' := has_i64 hb64
  clear hb64
  obtain ⟨B, hBe⟩ : ∃ B, B = w.heap.size := ⟨_, rfl⟩
  have HB := Lib.hid hBe
  have hst0 : (w.alloc (.cells #[] 2)).ownsRow B 2 1 (.slice (some ⟨w.heap.size, 0, none⟩) 0 0) 0 (((rollL zs p).take 0).map (Value.int .i64)) := World.ownsRow_made w #[] 0 (by omega) (by decide) rfl
  have hst1 : Below B w (w.alloc (.cells #[] 2)) := (Below.refl _ _).alloc (by omega) _
  have S0 := Lib.hid hst0
  have S1 := Lib.hid hst1
  rw [← hBe] at hbw ⊢
  clear hst0 hst1 hBe
  go_enter Tryz.func45, Tryz.ntmps45
  go_wp2_with fail
  go_loopw [6, 7] (fun v i wr => ∃ (k : Nat) (u : Value), k ≤ n ∧ i = .int .i64 k ∧ u = v ∧ Hid (wr.ownsRow B 2 1 v k (((rollL zs p).take k).map (Value.int .i64))) ∧ Hid (Below B w wr)) (fun _ i _ => n - (intOf i).toNat)
  case atStart => exact ⟨0, _, Nat.zero_le _, rfl, rfl, S0, S1⟩
  case round =>
    clear S0 S1 hq
    obtain ⟨k, v, hk, rfl, rfl, hO, hE⟩ := hrel
    by_cases hlt : k < n
    · obtain ⟨j, hj⟩ : ∃ j, (k + n - p) % n = j := ⟨_, rfl⟩
      have hjn : j < n := by rw [← hj]; exact Nat.mod_lt _ (by omega)
      have x1 : ((k : Int) - (p : Int) + (n : Int)) % (n : Int) = (j : Int) := by
        rw [← hj]
        have e : ((k : Int) - (p : Int) + (n : Int)) = ((k + n - p : Nat) : Int) := by omega
        rw [e]
        omega
      have x2 : ((k : Int) - (p : Int) + (n : Int)).tmod (n : Int) = (j : Int) := by
        rw [Int.tmod_eq_emod_of_nonneg (by omega), x1]
      have c1 : wr.cell? ⟨b1, o1 + j, none⟩ = some (.int .i64 (zs.getD j 0)) := (hE.out.cell (p := ⟨b1, o1 + j, none⟩) hbw).trans (HC.out j hjn)
      have u1 := U1.out k hlt
      rw [hj] at u1
      obtain ⟨z, hz⟩ : ∃ z, z = zs.getD j 0 := ⟨_, rfl⟩
      rw [← hz] at c1 u1
      have HU := Lib.hid u1
      clear hz u1 hj
      have hszB : B ≤ wr.heap.size := by have := hE.out.size; rw [HB.out]; exact this
      go_wp2_with (first
        | (at_builtin; refine wpList_append_lies _ rfl _ _ _ rfl B 2 i0 (.int .i64 0) 1 8 Tryz.underlying24 hi hz0 hz1 hz2 rfl (by omega) v k _ rfl (hO.out.alloc _) ⟨wr.heap.size, 0, none⟩ 1 1 _ rfl rfl (World.news_of_block (heap_alloc_new wr _)) (one_one _) (by omega) (by unfold maxLen; omega) (by omega) (by simp; omega) (wr.heap.size + 1) (by simp) ?_; intro gg cap w1 hown1 hgrow hat hlt2)
        | go_in)
      have hE2 := hE.out.grown (grown_alloc hgrow) hszB (fun j hj => (hO.out.lt j hj).1)
      have HO2 : Hid (w1.ownsRow B 2 1 (.slice (some ⟨gg, 0, none⟩) (k + 1) cap) (k + 1) (((rollL zs p).take (k + 1)).map (Value.int .i64))) := by
        rw [HU.out, List.map_append]
        exact hown1
      clear hgrow hown1 hat hlt2 c1
      go_roundw
      case rel => exact ⟨k + 1, _, by omega, by go_num, rfl, HO2, hE2⟩
      case measure => simp [intOf]; omega
    · have hkn : k = n := by omega
      subst hkn
      have e := hO.out
      rw [U3.out] at e
      have HE := Lib.hid e
      clear e
      go_wp2_with fail
      go_ret
      exact ⟨_, rfl, HE.out, hE.out⟩

set_option maxRecDepth 100000 in
set_option maxHeartbeats 2000000 in
theorem rolled_any (v : Value) (zs : List Int) (b : Int) (base : Nat) (w : World) (ho : Own w base v zs) (hok : okW zs = true) (hb64 : IntKind.i64.has b) :
    Calls Tryz.prog 43 #[v, .int .i64 b] w fun e w' => ∃ r, e = .returned r ∧ Own w' w.heap.size r (rollL zs (rollP b zs.length)) ∧ Below w.heap.size w w' := by
  have hl := okW_len hok
  obtain ⟨g, cap, rfl, hbg, hg, hc1, hc2, hcell⟩ := ho.cap (by omega)
  have tb := tmod_bd b zs.length (by omega)
  have pl := rollP_lt b zs.length (by omega)
  have pe := rollP_eq b zs.length (by omega)
  have pe2 := rollP_eq2 b zs.length (by omega)
  obtain ⟨p, hp⟩ : ∃ p, p = rollP b zs.length := ⟨_, rfl⟩
  rw [← hp] at pl pe pe2 ⊢
  have hRL : rollL zs p = zs.drop (zs.length - p) ++ zs.take (zs.length - p) := rfl
  rw [hRL]
  obtain ⟨m, hm⟩ : ∃ m, m = zs.length - p := ⟨_, rfl⟩
  rw [← hm]
  have l1 : (zs.take m).length = m := by rw [List.length_take]; omega
  have l2 : (zs.drop m).length = p := by rw [List.length_drop]; omega
  have IB : Hid (∀ wx, Below w.heap.size w wx → Ints wx (.slice (some ⟨g, 0, none⟩) m m) (zs.take m)) := fun wx hx => (show Ints w (.slice (some ⟨g, 0, none⟩) m m) (zs.take m) from .inr ⟨g, 0, m, by rw [l1], by omega, hg, fun j hj => by rw [l1] at hj; rw [Nat.zero_add, getD_take _ _ _ hj]; exact hcell j (by omega)⟩).below hx
  have IA : Hid (0 < p → ∀ wx, Below w.heap.size w wx → Ints wx (.slice (some ⟨g, m, none⟩) p (cap - m)) (zs.drop m)) := fun hpp wx hx => (show Ints w (.slice (some ⟨g, m, none⟩) p (cap - m)) (zs.drop m) from .inr ⟨g, m, cap - m, by rw [l2], by omega, hg, fun j hj => by rw [l2] at hj; rw [getD_drop]; exact hcell (m + j) (by omega)⟩).below hx
  have I0 : Hid (p = 0 → zs.drop m = []) := fun hpp => List.drop_eq_nil_of_le (by omega)
  have L1 := Lib.hid l1
  have L2 := Lib.hid l2
  obtain ⟨n, hln⟩ : ∃ n, n = zs.length := ⟨_, rfl⟩
  rw [← hln] at hm hl tb pl pe pe2 hc1 ⊢
  obtain ⟨q, hq⟩ : ∃ q, b.tmod (n : Int) = q := ⟨_, rfl⟩
  rw [hq] at tb pe pe2
  have hmi : (n : Int) - (p : Int) = (m : Int) := by omega
  have hm0 : (0 : Int) ≤ (m : Int) := by omega
  have hm1 : (m : Int) ≤ (n : Int) := by omega
  have hm2 : (m : Int) ≤ (cap : Int) := by omega
  have hnc : (n : Int) ≤ (cap : Int) := by omega
  have hnm : n - m = p := by omega
  have hpm : p + m = n := by omega
  have hcap := hc2
  unfold maxLen at hcap
  have hb64' := has_i64 hb64
  have HHC := Lib.hid hcell
  have HG := Lib.hid hg
  clear hb64 ho hok hp hRL hc2 hcell l1 l2 hbg hln hm
  go_enter Tryz.func43, Tryz.ntmps43
  by_cases hp0 : 0 < p
  · have hmn : (m : Int) < (n : Int) := by omega
    have hmc : (m : Int) < (cap : Int) := by omega
    have hmne : ¬ (cap = m) := by omega
    have HCC := Lib.hid (concat_any (zs.drop m) (zs.take m) (.slice (some ⟨g, m, none⟩) p (cap - m)) (.slice (some ⟨g, 0, none⟩) m m) w.heap.size (w.alloc (.cells #[.slice (some ⟨g, m, none⟩) p (cap - m), .slice (some ⟨g, 0, none⟩) m m] 60)).drew (IA.out hp0 _ (((Below.refl _ _).alloc (Nat.le_refl _) _).drew)) (IB.out _ (((Below.refl _ _).alloc (Nat.le_refl _) _).drew)) (by simp [go_sem]) (by simp [go_sem]) (by simp) ⟨⟨g, m, none⟩, cap - m, by rw [L2.out]⟩ ⟨⟨g, 0, none⟩, m, by rw [L1.out]⟩ (by rw [L1.out, L2.out]; omega) (by rw [L1.out, L2.out]; omega))
    go_wp2_with fail
    go_region_held3 (fun _ => True) (trivial)
      ((go_at_call 75; refine HCC.out.mono ?_; rintro e w1 ⟨r, rfl, own, hB⟩))
    have hB2 : Below w.heap.size w w1 := (((Below.refl w.heap.size w).alloc (Nat.le_refl _) _).drew).trans (hB.mono (by simp))
    go_wp2_with fail
    go_ret
    exact ⟨_, rfl, own.mono (by simp), hB2⟩
  · have hpz : p = 0 := by omega
    have hmz : m = n := by omega
    subst hmz
    subst hpz
    have HZD := Lib.hid (I0.out rfl)
    by_cases hcn : m = cap
    · subst hcn
      have HCC := Lib.hid (concat_any (zs.drop m) (zs.take m) (.slice (some ⟨g, 0, none⟩) 0 0) (.slice (some ⟨g, 0, none⟩) m m) w.heap.size (w.alloc (.cells #[.slice (some ⟨g, 0, none⟩) 0 0, .slice (some ⟨g, 0, none⟩) m m] 60)).drew (.inl ⟨_, _, rfl, HZD.out⟩) (IB.out _ (((Below.refl _ _).alloc (Nat.le_refl _) _).drew)) (by simp [go_sem]) (by simp [go_sem]) (by simp) ⟨⟨g, 0, none⟩, 0, by rw [L2.out]⟩ ⟨⟨g, 0, none⟩, m, by rw [L1.out]⟩ (by rw [L1.out, L2.out]; omega) (by rw [L1.out, L2.out]; omega))
      go_wp2_with fail
      go_region_held3 (fun _ => True) (trivial)
        ((go_at_call 75; refine HCC.out.mono ?_; rintro e w1 ⟨r, rfl, own, hB⟩))
      have hB2 : Below w.heap.size w w1 := (((Below.refl w.heap.size w).alloc (Nat.le_refl _) _).drew).trans (hB.mono (by simp))
      go_wp2_with fail
      go_ret
      exact ⟨_, rfl, own.mono (by simp), hB2⟩
    · have hmc : (m : Int) < (cap : Int) := by omega
      have hcn5 : ¬ (cap = m) := by omega
      have HCC := Lib.hid (concat_any (zs.drop m) (zs.take m) (.slice (some ⟨g, m, none⟩) 0 (cap - m)) (.slice (some ⟨g, 0, none⟩) m m) w.heap.size (w.alloc (.cells #[.slice (some ⟨g, m, none⟩) 0 (cap - m), .slice (some ⟨g, 0, none⟩) m m] 60)).drew (.inl ⟨_, _, rfl, HZD.out⟩) (IB.out _ (((Below.refl _ _).alloc (Nat.le_refl _) _).drew)) (by simp [go_sem]) (by simp [go_sem]) (by simp) ⟨⟨g, m, none⟩, cap - m, by rw [L2.out]⟩ ⟨⟨g, 0, none⟩, m, by rw [L1.out]⟩ (by rw [L1.out, L2.out]; omega) (by rw [L1.out, L2.out]; omega))
      go_wp2_with fail
      go_region_held3 (fun _ => True) (trivial)
        ((go_at_call 75; refine HCC.out.mono ?_; rintro e w1 ⟨r, rfl, own, hB⟩))
      have hB2 : Below w.heap.size w w1 := (((Below.refl w.heap.size w).alloc (Nat.le_refl _) _).drew).trans (hB.mono (by simp))
      go_wp2_with fail
      go_ret
      exact ⟨_, rfl, own.mono (by simp), hB2⟩
end Go.Proofs.YtpnfombolnaldaaGreatDoor
