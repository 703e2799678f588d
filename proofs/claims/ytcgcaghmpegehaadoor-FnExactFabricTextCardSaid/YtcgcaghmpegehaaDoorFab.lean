/-
  No statement is proved here: how a law copies texts and fabrics, weighs and compares them; condition: at most 2097152 texts.
-/
import Derived.Test.YtcgcaghmpegehaaDoorStr
import Derived.Test.YtcgcaghmpegehaaDoorEqT
namespace Go.Proofs.YtcgcaghmpegehaaDoor
open Go.ChangeShapes Go.WideShapes Go.ChangeAt Go.RowKit

set_option maxRecDepth 100000 in
set_option maxHeartbeats 1000000 in
theorem toStrs_any (v : Value) (zs : List ByteArray) (w : World) (h : Strs w v zs) (hn : zs.length ≤ 1048576) :
    Calls Tryd.prog 12 #[v] w fun e w' => ∃ u, e = .returned u ∧ OwnT w' w.heap.size u zs ∧ Below w.heap.size w w' := by
  obtain ⟨i0, hi, hz0, hz1, hz2⟩ := info_parts infoStr
  rcases h with ⟨a, cap, rfl, rfl⟩ | ⟨b, off, cap, rfl, h0, hb, hc⟩
  · go_enter Tryd.func12, Tryd.ntmps12
    go_wp2_with (first | (at_make; refine wpList_make_full _ rfl _ _ 23 rfl w.heap.size 9 i0 (.string ByteArray.empty) 1 Tryd.underlying23 hi hz0 hz1 _ _ _ _ 0 rfl rfl rfl rfl (by omega) (by decide) (Nat.le_refl _) ?_; intro w1 hown hgrow) | go_in)
    go_rounds 1
    go_ret
    exact ⟨_, rfl, by simpa [madeCells, OwnT] using hown, (Below.refl _ _).grown hgrow (Nat.le_refl _) (fun k hk => by cases hk)⟩
  · obtain ⟨n, hln⟩ : ∃ n, n = zs.length := ⟨_, rfl⟩
    have HL := Lib.hid hln
    rw [← hln] at h0 hn hc ⊢
    clear hln
    obtain ⟨B, hBe⟩ : ∃ B, B = w.heap.size := ⟨_, rfl⟩
    rw [← hBe] at hb ⊢
    have HB := Lib.hid hBe
    clear hBe
    go_enter Tryd.func12, Tryd.ntmps12
    go_wp2_with (first | (at_make; refine wpList_make_full _ rfl _ _ 23 rfl w.heap.size 9 i0 (.string ByteArray.empty) 1 Tryd.underlying23 hi hz0 hz1 _ _ _ _ n rfl rfl rfl rfl (by rw [hz2]; omega) (by unfold maxLen; omega) (Nat.le_refl _) ?_; intro w1 hown hgrow) | go_in)
    have hB1 : Below B w w1 := (Below.refl _ _).grown hgrow (by rw [HB.out]; omega) (fun k hk => by cases hk)
    have hfl := fun k (hk : k ≤ n) => fillT_length zs k (by rw [← HL.out]; exact hk)
    have hst := fun k (hk : k < n) => fillT_step zs k (by rw [← HL.out]; exact hk)
    have hz0' : (madeCells (Value.string ByteArray.empty).cells (n * 1)).toList = (fillT zs 0).map (Value.string) := by
      rw [fillT_zero, ← HL.out, Nat.mul_one]
      show (madeCells #[Value.string ByteArray.empty] n).toList = _
      rw [toList_madeCells_one]
      simp
    rw [hz0', ← HB.out] at hown
    rw [← HB.out]
    have HW := Lib.hid hown
    have HC := Lib.hid hc
    have HBB := Lib.hid hB1
    have HFL := Lib.hid hfl
    have HST := Lib.hid hst
    clear hown hc hB1 hgrow hz0' hfl hst
    go_loopw [4] (fun i wr => ∃ k : Nat, k ≤ n ∧ i = .int .i64 k ∧ Hid (wr.ownsRow B 9 1 (.slice (some ⟨B, 0, none⟩) n n) n ((fillT zs k).map (Value.string))) ∧ Hid (Below B w wr)) (fun i _ => n - (intOf i).toNat)
    case atStart => exact ⟨0, Nat.zero_le _, rfl, HW, HBB⟩
    case round =>
      obtain ⟨k, hk, rfl, hO, hBe⟩ := hrel
      have hcx : k < n → wr.cell? ⟨b, off + k, none⟩ = some (.string (zs.getD k ByteArray.empty)) := fun h => (hBe.out.cell (p := ⟨b, off + k, none⟩) hb).trans (HC.out k h)
      have hcy : k < n → wr.cell? ⟨B, k, none⟩ = some (.string ((fillT zs k).getD k ByteArray.empty)) := fun h => (hO.out.cellAt k (by omega)).trans (cellT (by rw [HFL.out k hk, ← HL.out]; exact h))
      have hfy : wr.frozen? ⟨B, k, none⟩ = false := hO.out.frozenAt k
      go_wp2
      · have hlt : k < n := by assumption
        go_roundw
        case rel =>
          refine ⟨k + 1, by omega, by go_num, ?_, Lib.hid (hBe.out.setCell (p := ⟨B, k, none⟩) (by rw [HB.out]; exact Nat.le_refl _) _)⟩
          have h := (hO.out.stored k (Value.string (zs.getD k ByteArray.empty))).1
          rw [← List.map_set, HST.out k hlt] at h
          exact Lib.hid h
        case measure => simp [intOf]; omega
      · have hkn : k = n := by omega
        subst hkn
        have e : fillT zs k = zs := by rw [HL.out]; exact fillT_all zs
        go_ret
        refine ⟨_, rfl, ?_, hBe.out⟩
        have h := hO.out
        rw [e] at h
        unfold OwnT
        rw [← HL.out]
        exact h

/-- How much a list of texts weighs: each text one, and its bytes. -/
def sizes (L : List ByteArray) : Nat → Nat
  | 0 => 0
  | k + 1 => sizes L k + (L.getD k ByteArray.empty).size
def weight (L : List ByteArray) : Nat := L.length + sizes L L.length
theorem sizes_le (L : List ByteArray) : ∀ {j k : Nat}, j ≤ k → sizes L j ≤ sizes L k
  | j, 0, h => by rw [show j = 0 by omega]; exact Nat.le_refl _
  | j, k + 1, h => by
    by_cases e : j = k + 1
    · rw [e]; exact Nat.le_refl _
    · have := sizes_le L (show j ≤ k by omega)
      rw [sizes]
      omega
theorem size_of (L : List ByteArray) (k : Nat) (hk : k < L.length) : (L.getD k ByteArray.empty).size ≤ sizes L L.length := by
  have := sizes_le L (show k + 1 ≤ L.length by omega)
  rw [sizes] at this
  omega

set_option maxRecDepth 100000 in
set_option maxHeartbeats 1000000 in
theorem szStrs_any (v : Value) (L : List ByteArray) (z : Int) (w : World) (h : Strs w v L) (hz : 0 ≤ z) (hz' : z ≤ 1048576) (hm : L.length ≤ maxLen) (hs : ∀ j, j < L.length → (L.getD j ByteArray.empty).size ≤ maxLen) :
    Calls Tryd.prog 9 #[v, .int .i64 z] w fun e w' => e = .returned (.int .i64 (if (weight L : Int) ≤ z then z - weight L else -1)) ∧ w = w' := by
  have hM : maxLen = 9223372036854775807 := by decide
  rw [hM] at hm hs
  have hwt : weight L = L.length + sizes L L.length := rfl
  by_cases h0 : L.length = 0
  · have hx : L = [] := List.length_eq_zero_iff.1 h0
    subst hx
    obtain ⟨a1, c1, rfl⟩ := h.nil
    have e : (if (weight [] : Int) ≤ z then z - weight [] else -1) = z := by simp [weight, sizes, hz]
    rw [e]
    clear h hm hs hwt e h0
    have hlt : ¬ z - 0 < 0 := by omega
    go_enter Tryd.func9, Tryd.ntmps9
    go_wp2
    go_rounds 1
    go_ret
    exact ⟨ret_int (by omega), rfl⟩
  · obtain ⟨b, off, cap, rfl, hc⟩ := h.pos (by omega)
    clear h
    have HC := Lib.hid hc
    have HS := Lib.hid hs
    have HL := Lib.hid fun j k (h : j ≤ k) => sizes_le L h
    have HT := Lib.hid fun k => show sizes L (k + 1) = sizes L k + (L.getD k ByteArray.empty).size from rfl
    have HZ := Lib.hid (show sizes L 0 = 0 from rfl)
    rw [hwt]
    obtain ⟨n, hn⟩ : ∃ n, n = L.length := ⟨_, rfl⟩
    rw [← hn] at hm h0 HC HS ⊢
    clear hn hs hc hwt
    obtain ⟨r, hr⟩ : ∃ r : Int, r = if ((n + sizes L n : Nat) : Int) ≤ z then z - ((n + sizes L n : Nat) : Int) else -1 := ⟨_, rfl⟩
    rw [← hr]
    have HR := Lib.hid hr
    clear hr
    by_cases hlt : z - (n : Int) < 0
    · have HR2 := Lib.hid (show r = -1 by rw [HR.out, if_neg (by omega)])
      go_enter Tryd.func9, Tryd.ntmps9
      go_wp2
      go_ret
      exact ⟨ret_int HR2.out.symm, rfl⟩
    · go_enter Tryd.func9, Tryd.ntmps9
      go_wp2
      go_loop [1, 5] (fun zz i => ∃ k : Nat, k ≤ n ∧ i = .int .i64 k ∧ zz = .int .i64 (z - n - sizes L k) ∧ 0 ≤ z - n - sizes L k) (fun _ i => n - (intOf i).toNat)
      case atStart => exact ⟨0, Nat.zero_le _, rfl, by rw [HZ.out]; simp, by rw [HZ.out]; omega⟩
      case round =>
        obtain ⟨k, hk, rfl, rfl, hp⟩ := hrel
        by_cases hlt : k < n
        · have c1 : w.cell? ⟨b, off + k, none⟩ = some (.string (L.getD k ByteArray.empty)) := HC.out k hlt
          have hs1 := HS.out k hlt
          have hs2 := HT.out k
          have hs3 := HL.out (k + 1) n (by omega)
          generalize L.getD k ByteArray.empty = x at *
          obtain ⟨q, hq⟩ : ∃ q, q = sizes L k := ⟨_, rfl⟩
          rw [← hq] at hp hs2 ⊢
          have HQ := Lib.hid hs2
          by_cases hneg : z - n - (q : Int) - (x.size : Int) < 0
          · have HR2 := Lib.hid (show r = -1 by rw [HR.out, if_neg (by omega)])
            clear hs2 hs3 hq
            go_wp2
            go_ret
            exact ⟨ret_int HR2.out.symm, rfl⟩
          · clear hs2 hs3 hq
            go_wp2
            go_round
            case rel => exact ⟨k + 1, by omega, by go_num, by rw [HQ.out]; go_num, by rw [HQ.out]; omega⟩
            case measure => simp [intOf]; omega
        · have hkn : k = n := by omega
          subst hkn
          have HR2 := Lib.hid (show r = z - k - sizes L k by rw [HR.out, if_pos (by omega)]; omega)
          clear hp
          generalize sizes L k = q at *
          go_wp2
          go_ret
          exact ⟨ret_int HR2.out.symm, rfl⟩

set_option maxRecDepth 100000 in
theorem toFabric_any (c : Int) (v : Value) (L : List ByteArray) (w : World) (h : Strs w v L) (hn : L.length ≤ 1048576) :
    Calls Tryd.prog 6 #[.agg #[.int .i16 c, v]] w fun e w' => ∃ u, e = .returned (.agg #[.int .i16 c, u]) ∧ OwnT w' w.heap.size u L ∧ Below w.heap.size w w' := by
  have HC := Lib.hid fun wx h => toStrs_any v L wx h hn
  go_enter Tryd.func6, Tryd.ntmps6
  go_wp2_with fail
  refine (HC.out _ (h.below (by go_grown))).mono ?_
  rintro e w2 ⟨u, rfl, own, hB⟩
  have hz : ∀ (x y z : Obj), (((w.alloc x).alloc y).alloc z).heap.size = w.heap.size + 3 := fun x y z => by simp
  obtain ⟨k1, l1⟩ := cellsKept hB (w.heap.size + 1) (by rw [hz]; omega)
  obtain ⟨k2, l2⟩ := cellsKept hB (w.heap.size + 1 + 1) (by rw [hz]; omega)
  have a0 : w2.cell? ⟨w.heap.size + 1 + 1, 0, none⟩ = some (.int .i16 c) := (k2 0).trans (by simp [go_sem])
  have a1 : w2.cell? ⟨w.heap.size + 1 + 1, 1, none⟩ = some (.slice none 0 0) := (k2 1).trans (by simp [go_sem])
  have b0 : w2.cell? ⟨w.heap.size + 1, 0, none⟩ = some (.int .i16 0) := (k1 0).trans (by simp [go_sem])
  have b1 : w2.cell? ⟨w.heap.size + 1, 1, none⟩ = some (.slice none 0 0) := (k1 1).trans (by simp [go_sem])
  have f0 : w2.frozen? ⟨w.heap.size + 1 + 1, 0, none⟩ = false := (l2 0).trans (by simp [go_sem])
  have f1 : w2.frozen? ⟨w.heap.size + 1 + 1, 1, none⟩ = false := (l2 1).trans (by simp [go_sem])
  have g0 : w2.frozen? ⟨w.heap.size + 1, 0, none⟩ = false := (l1 0).trans (by simp [go_sem])
  have g1 : w2.frozen? ⟨w.heap.size + 1, 1, none⟩ = false := (l1 1).trans (by simp [go_sem])
  obtain ⟨ua, uc, rfl⟩ := own.strs.len
  have O := Lib.hid own
  have B2 : Hid (Below w.heap.size w w2) := Lib.hid (Below.trans (by go_grown) (hB.mono (by rw [hz]; omega)))
  clear own hB k1 l1 k2 l2
  have n0 : (⟨w.heap.size + 1 + 1, 1, none⟩ : Addr) ≠ ⟨w.heap.size + 1, 0, none⟩ := by simp
  have n1 : (⟨w.heap.size + 1 + 1, 1, none⟩ : Addr) ≠ ⟨w.heap.size + 1, 1, none⟩ := by simp
  have n2 : (⟨w.heap.size + 1, 0, none⟩ : Addr) ≠ ⟨w.heap.size + 1, 1, none⟩ := by simp
  have e0 : ((w2.setCell ⟨w.heap.size + 1 + 1, 1, none⟩ (.slice ua L.length uc)).setCell ⟨w.heap.size + 1, 0, none⟩ (.int .i16 c)).cell? ⟨w.heap.size + 1, 0, none⟩ = some (.int .i16 c) :=
    World.cell?_setCell_same _ _ _ ((World.cell?_setCell_other _ _ _ _ n0).trans b0)
  have e1 : (((w2.setCell ⟨w.heap.size + 1 + 1, 1, none⟩ (.slice ua L.length uc)).setCell ⟨w.heap.size + 1, 0, none⟩ (.int .i16 c)).setCell ⟨w.heap.size + 1, 1, none⟩ (.slice ua L.length uc)).cell? ⟨w.heap.size + 1, 1, none⟩ = some (.slice ua L.length uc) :=
    World.cell?_setCell_same _ _ _ ((World.cell?_setCell_other _ _ _ _ n2).trans ((World.cell?_setCell_other _ _ _ _ n1).trans b1))
  go_wp2
  refine bodyPost_ret (by simp [results, Tryd.results6, go_sem, e0, e1]; try rfl) rfl ?_
  refine ⟨_, rfl, ?_, ?_⟩
  · refine OwnT.mono (base := w.heap.size + 3) ?_ (by omega)
    have O2 := O.out
    rw [hz] at O2
    exact ownsRow_setCell_below (ownsRow_setCell_below (ownsRow_setCell_below O2 (by simp) _) (by simp) _) (by simp) _
  · exact ((B2.out.setCell (by simp; omega) _).setCell (by simp) _).setCell (by simp) _

set_option maxRecDepth 100000 in
theorem eqFabric_self (c : Int) (a b : Value) (L : List ByteArray) (w : World) (ha : Strs w a L) (hb : Strs w b L) (hn : L.length ≤ 2097152) :
    Calls Tryd.prog 8 #[.agg #[.int .i16 c, a], .agg #[.int .i16 c, b]] w fun e w' => e = .returned (.bool true) ∧ Below w.heap.size w w' := by
  have HC := Lib.hid fun wx ha hb => eqStrs_self a b L wx ha hb hn
  go_enter Tryd.func8, Tryd.ntmps8
  go_wp2_with fail
  refine (HC.out _ (ha.below (by go_grown)) (hb.below (by go_grown))).mono ?_
  rintro e w2 ⟨rfl, hB⟩
  go_wp2
  go_ret
  exact ⟨rfl, Below.trans (by go_grown) (hB.mono (by simp; omega))⟩
end Go.Proofs.YtcgcaghmpegehaaDoor
