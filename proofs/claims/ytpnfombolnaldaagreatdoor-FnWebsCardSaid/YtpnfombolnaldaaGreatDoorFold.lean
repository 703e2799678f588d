/-
  No statement is proved here: webs laid double, as the document's own text does it; condition: the web is valid.
-/
import Derived.Test.YtpnfombolnaldaaGreatDoorWith
namespace Go.Proofs.YtpnfombolnaldaaGreatDoor
open Go.ChangeShapes Go.WideShapes Go.ChangeAt Go.RowKit

/-- The stripe that comes onto the stripe j. -/
def mate (f : Bool) (n j : Nat) : Nat := if f = true then n - 1 - j else j + n / 2
/-- The first k stripes of a web laid double. -/
def dblTo (zs : List Int) (f : Bool) (k : Nat) : List Int := (List.range k).map fun j => zs.getD j 0 + zs.getD (mate f zs.length j) 0
theorem dblTo_length (zs : List Int) (f : Bool) (k : Nat) : (dblTo zs f k).length = k := by simp [dblTo]
theorem dblTo_step (zs : List Int) (f : Bool) (k : Nat) : dblTo zs f (k + 1) = dblTo zs f k ++ [zs.getD k 0 + zs.getD (mate f zs.length k) 0] := by
  rw [dblTo, List.range_succ, List.map_append, ← dblTo]
  rfl
theorem dblTo_get (zs : List Int) (f : Bool) (k j : Nat) (hj : j < k) : (dblTo zs f k).getD j 0 = zs.getD j 0 + zs.getD (mate f zs.length j) 0 := by
  simp [dblTo, List.getD, hj]

attribute [local go_sem ↓] Go.wp_at_zero Go.wp_at_succ

set_option maxRecDepth 100000 in
set_option maxHeartbeats 2000000 in
theorem l02Double_any (v : Value) (zs : List Int) (f : Bool) (w : World) (h : Ints w v zs) (hok : okW zs = true) :
    Calls Tryz.prog 52 #[v, .bool f] w fun e w' => ∃ r, e = .returned r ∧ Own w' w.heap.size r (dblTo zs f (zs.length / 2)) ∧ Below w.heap.size w w' := by
  obtain ⟨i0, hi, hz0, hz1, hz2⟩ := info_parts info64
  have hl := okW_len hok
  have hbw0 := h.blk (by omega)
  obtain ⟨b1, o1, c1, rfl, hc1⟩ := h.pos (by omega)
  have hbw : b1 < w.heap.size := hbw0 b1 o1 none _ _ rfl
  have U1 := Lib.hid (dblTo_step zs f)
  have U2 := Lib.hid (dblTo_length zs f)
  have U4 := Lib.hid (fun k hk => okW_get hok k hk)
  clear h hbw0 hok
  obtain ⟨n, hln⟩ : ∃ n, n = zs.length := ⟨_, rfl⟩
  rw [← hln] at U1 U4 hc1 hl ⊢
  have HC := Lib.hid hc1
  clear hc1 hln
  obtain ⟨B, hBe⟩ : ∃ B, B = w.heap.size := ⟨_, rfl⟩
  have HB := Lib.hid hBe
  have hst0 : (w.alloc (.cells #[] 2)).ownsRow B 2 1 (.slice (some ⟨w.heap.size, 0, none⟩) 0 0) 0 ((dblTo zs f 0).map (Value.int .i64)) := World.ownsRow_made w #[] 0 (by omega) (by decide) rfl
  have hst1 : Below B w (w.alloc (.cells #[] 2)) := (Below.refl _ _).alloc (by omega) _
  have S0 := Lib.hid hst0
  have S1 := Lib.hid hst1
  rw [← hBe] at hbw ⊢
  clear hst0 hst1 hBe
  go_enter Tryz.func52, Tryz.ntmps52
  go_wp2_with fail
  go_loopw [5, 7] (fun v i wr => ∃ (k : Nat) (u : Value), k ≤ n / 2 ∧ i = .int .i64 k ∧ u = v ∧ Hid (wr.ownsRow B 2 1 v k ((dblTo zs f k).map (Value.int .i64))) ∧ Hid (Below B w wr)) (fun _ i _ => n - (intOf i).toNat)
  case atStart => exact ⟨0, _, Nat.zero_le _, rfl, rfl, S0, S1⟩
  case round =>
    clear S0 S1
    obtain ⟨k, v, hk, rfl, rfl, hO, hE⟩ := hrel
    by_cases hlt : k < n / 2
    · have c1 : wr.cell? ⟨b1, o1 + k, none⟩ = some (.int .i64 (zs.getD k 0)) := (hE.out.cell (p := ⟨b1, o1 + k, none⟩) hbw).trans (HC.out k (by omega))
      have u4 := U4.out k (by omega)
      have hszB : B ≤ wr.heap.size := by have := hE.out.size; rw [HB.out]; exact this
      have hk0 : (0 : Int) ≤ (k : Int) := Int.natCast_nonneg _
      have hk1 : (k : Int) < (n : Int) := by omega
      have hk2 : (k : Int) < (n : Int) / 2 := by omega
      have hsz : b1 < wr.heap.size := Nat.lt_of_lt_of_le hbw (by have := hE.out.size; rw [HB.out]; exact this)
      have hne1 : some b1 ≠ v.ownBlock := fun e => by
        have := (hO.out.lt b1 e.symm).1
        omega
      cases f with
      | true =>
        obtain ⟨j, hj⟩ : ∃ j, mate true n k = j := ⟨_, rfl⟩
        have hjv : n - 1 - k = j := by rw [← hj]; rfl
        have hjn : j < n := by omega
        have c2 : wr.cell? ⟨b1, o1 + j, none⟩ = some (.int .i64 (zs.getD j 0)) := (hE.out.cell (p := ⟨b1, o1 + j, none⟩) hbw).trans (HC.out j hjn)
        have u5 := U4.out j hjn
        have u1 := U1.out k
        rw [hj] at u1
        obtain ⟨a, ha⟩ : ∃ a, a = zs.getD k 0 := ⟨_, rfl⟩
        obtain ⟨b, hb⟩ : ∃ b, b = zs.getD j 0 := ⟨_, rfl⟩
        rw [← ha] at c1 u4 u1
        rw [← hb] at c2 u5 u1
        have HU := Lib.hid u1
        have HJ := Lib.hid hj
        clear u1 ha hb hj
        have ew : IntKind.i64.wrap (a + b) = a + b := IntWalk.i64_in _ (by omega)
        have hj0 : (0 : Int) ≤ (j : Int) := Int.natCast_nonneg _
        have hj1 : (j : Int) < (n : Int) := by omega
        have x1 : IntKind.i64.wrap ((n : Int) - 1) = (n : Int) - 1 := IntWalk.i64_in _ (by omega)
        have x2 : IntKind.i64.wrap ((n : Int) - 1 - (k : Int)) = (j : Int) := by
          rw [IntWalk.i64_in _ (by omega)]
          omega
        go_wp2_with fail
        go_region_held3 (fun w' => w'.cell? ⟨b1, o1 + k, none⟩ = some (.int .i64 a) ∧ w'.cell? ⟨b1, o1 + j, none⟩ = some (.int .i64 b)) (first | go_keep | (go_split_ands; exact ⟨hgrow.cell (by assumption) hne1, hgrow.cell (by assumption) hne1⟩))
          ((refine step_append_lies _ (by rfl) _ _ _ (by rfl) B 2 i0 (.int .i64 0) 1 8 Tryz.underlying24 hi hz0 hz1 hz2 rfl (by omega) v k _ (by rfl) ((hO.out.alloc _)) ⟨wr.heap.size, 0, none⟩ 1 1 [.int .i64 (a + b)] (by rfl) (by rfl) (World.news_of_block (cs := #[.int .i64 (a + b)]) (t := 2) (fr := (0, 0)) (heap_alloc_new wr _)) (one_one _) (by omega) (by unfold maxLen; omega) (by omega) (by simp; omega) (wr.heap.size + 1) (by simp) ?_; intro gg cap w1 hown1 hgrow hat hlt2))
        have hE2 := hE.out.grown (grown_drew hgrow) hszB (fun k hk => by rw [HB.out]; exact HB.out ▸ (hO.out.lt k hk).1)
        have HO2 : Hid (w1.ownsRow B 2 1 (.slice (some ⟨gg, 0, none⟩) (k + 1) cap) (k + 1) ((dblTo zs true (k + 1)).map (Value.int .i64))) := by
          rw [HU.out, List.map_append]
          exact hown1
        clear hgrow hown1 hat hlt2
        go_wp2_with fail
        go_roundw
        case rel => exact ⟨k + 1, _, by omega, by go_num, rfl, HO2, hE2⟩
        case measure => simp [intOf]; omega
      | false =>
        obtain ⟨j, hj⟩ : ∃ j, mate false n k = j := ⟨_, rfl⟩
        have hjv : k + n / 2 = j := by rw [← hj]; rfl
        have hjn : j < n := by omega
        have c2 : wr.cell? ⟨b1, o1 + j, none⟩ = some (.int .i64 (zs.getD j 0)) := (hE.out.cell (p := ⟨b1, o1 + j, none⟩) hbw).trans (HC.out j hjn)
        have u5 := U4.out j hjn
        have u1 := U1.out k
        rw [hj] at u1
        obtain ⟨a, ha⟩ : ∃ a, a = zs.getD k 0 := ⟨_, rfl⟩
        obtain ⟨b, hb⟩ : ∃ b, b = zs.getD j 0 := ⟨_, rfl⟩
        rw [← ha] at c1 u4 u1
        rw [← hb] at c2 u5 u1
        have HU := Lib.hid u1
        have HJ := Lib.hid hj
        clear u1 ha hb hj
        have ew : IntKind.i64.wrap (a + b) = a + b := IntWalk.i64_in _ (by omega)
        have hj0 : (0 : Int) ≤ (j : Int) := Int.natCast_nonneg _
        have hj1 : (j : Int) < (n : Int) := by omega
        have x0 : (n : Int).tdiv 2 = (n : Int) / 2 := Int.tdiv_eq_ediv_of_nonneg (by omega)
        have x1b : IntKind.i64.wrap ((n : Int) / 2) = (n : Int) / 2 := IntWalk.i64_in _ (by omega)
        have x1c : IntKind.i64.wrap (((n / 2 : Nat)) : Int) = ((n / 2 : Nat) : Int) := IntWalk.i64_in _ (by omega)
        have x2b : IntKind.i64.wrap ((k : Int) + ((n / 2 : Nat) : Int)) = (j : Int) := by
          rw [IntWalk.i64_in _ (by omega)]
          omega
        have x1 : IntKind.i64.wrap ((n : Int).tdiv 2) = (n : Int) / 2 := by
          rw [Int.tdiv_eq_ediv_of_nonneg (by omega)]
          exact IntWalk.i64_in _ (by omega)
        have x2 : IntKind.i64.wrap ((k : Int) + (n : Int) / 2) = (j : Int) := by
          rw [IntWalk.i64_in _ (by omega)]
          omega
        go_wp2_with fail
        go_region_held3 (fun w' => w'.cell? ⟨b1, o1 + k, none⟩ = some (.int .i64 a) ∧ w'.cell? ⟨b1, o1 + j, none⟩ = some (.int .i64 b)) (first | go_keep | (go_split_ands; exact ⟨hgrow.cell (by assumption) hne1, hgrow.cell (by assumption) hne1⟩))
          ((refine step_append_lies _ (by rfl) _ _ _ (by rfl) B 2 i0 (.int .i64 0) 1 8 Tryz.underlying24 hi hz0 hz1 hz2 rfl (by omega) v k _ (by rfl) ((hO.out.alloc _)) ⟨wr.heap.size, 0, none⟩ 1 1 [.int .i64 (a + b)] (by rfl) (by rfl) (World.news_of_block (cs := #[.int .i64 (a + b)]) (t := 2) (fr := (0, 0)) (heap_alloc_new wr _)) (one_one _) (by omega) (by unfold maxLen; omega) (by omega) (by simp; omega) (wr.heap.size + 1) (by simp) ?_; intro gg cap w1 hown1 hgrow hat hlt2))
        have hE2 := hE.out.grown (grown_drew hgrow) hszB (fun k hk => by rw [HB.out]; exact HB.out ▸ (hO.out.lt k hk).1)
        have HO2 : Hid (w1.ownsRow B 2 1 (.slice (some ⟨gg, 0, none⟩) (k + 1) cap) (k + 1) ((dblTo zs false (k + 1)).map (Value.int .i64))) := by
          rw [HU.out, List.map_append]
          exact hown1
        clear hgrow hown1 hat hlt2
        go_wp2_with fail
        go_roundw
        case rel => exact ⟨k + 1, _, by omega, by go_num, rfl, HO2, hE2⟩
        case measure => simp [intOf]; omega
    · have hkn : k = n / 2 := by omega
      have e := hO.out
      rw [hkn] at e
      have HE := Lib.hid e
      clear e
      go_wp2_with fail
      go_ret
      refine ⟨_, rfl, ?_, hE.out⟩
      unfold Own
      rw [U2.out]
      exact HE.out
end Go.Proofs.YtpnfombolnaldaaGreatDoor
