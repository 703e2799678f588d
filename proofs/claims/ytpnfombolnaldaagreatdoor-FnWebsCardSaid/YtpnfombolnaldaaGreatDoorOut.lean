/-
  No statement is proved here: how stripes are drawn out, as the program and as the document's own text do it; condition: numbers from 0 to 20000, at most 1048576 of them.
-/
import Derived.Test.YtpnfombolnaldaaGreatDoorSum
import Derived.Deep.RegionHeld3
import Derived.Deep.AppendLies
import Derived.Deep.DrawnRows
namespace Go.Proofs.YtpnfombolnaldaaGreatDoor
open Go.ChangeShapes Go.WideShapes Go.ChangeAt Go.RowKit

/-- Two stripes of each one. -/
def outD (zs : List Int) : List Int := zs.flatMap fun z => [(z + 1) / 2, z / 2]
theorem outD_step (zs : List Int) (k : Nat) (hk : k < zs.length) : outD (zs.take (k + 1)) = outD (zs.take k) ++ [(zs.getD k 0 + 1) / 2, zs.getD k 0 / 2] := by
  rw [take_step hk, outD, List.flatMap_append, ← outD]
  simp
theorem outD_length (zs : List Int) : (outD zs).length = 2 * zs.length := by
  induction zs with
  | nil => rfl
  | cons z zs ih => rw [outD, List.flatMap_cons, List.length_append, ← outD, ih, List.length_cons]; simp; omega
theorem outD_take (zs : List Int) (k : Nat) (hk : k ≤ zs.length) : (outD (zs.take k)).length = 2 * k := by rw [outD_length, List.length_take]; omega
theorem outD_all (zs : List Int) : outD (zs.take zs.length) = outD zs := by rw [List.take_length]

theorem half_up {z : Int} (h : 0 ≤ z) (h' : z ≤ 20000) : IntKind.i64.wrap ((IntKind.i64.wrap (z + 1)).tdiv 2) = (z + 1) / 2 := by
  have e1 : IntKind.i64.wrap (z + 1) = z + 1 := IntWalk.i64_in _ (by omega)
  rw [e1, Int.tdiv_eq_ediv_of_nonneg (by omega)]
  exact IntWalk.i64_in _ (by omega)
theorem half_down {z : Int} (h : 0 ≤ z) (h' : z ≤ 20000) : IntKind.i64.wrap (z.tdiv 2) = z / 2 := by
  rw [Int.tdiv_eq_ediv_of_nonneg (by omega)]
  exact IntWalk.i64_in _ (by omega)
theorem grown_drew {w w' : World} {o : Obj} {row : Option Nat} (h : (w.alloc o).drew.grownBy w' row) : w.grownBy w' row :=
  ⟨h.os, h.tape, h.output, Nat.le_trans (by simp) h.size, fun i hi hne => (h.block i (by simp; omega) hne).trans (Below.heap_alloc w o i hi)⟩
theorem grown_alloc {w w' : World} {o : Obj} {row : Option Nat} (h : (w.alloc o).grownBy w' row) : w.grownBy w' row :=
  ⟨h.os, h.tape, h.output, Nat.le_trans (by simp) h.size, fun i hi hne => (h.block i (by simp; omega) hne).trans (Below.heap_alloc w o i hi)⟩
theorem two_one (a b : Int) : ∀ u ∈ [Value.int .i64 a, Value.int .i64 b], u.oneCell' = true := by intro u hu; simp at hu; rcases hu with rfl | rfl <;> rfl
theorem one_one (a : Int) : ∀ u ∈ [Value.int .i64 a], u.oneCell' = true := by intro u hu; simp at hu; subst hu; rfl

attribute [local go_sem ↓] Go.wp_at_zero Go.wp_at_succ

set_option maxRecDepth 100000 in
set_option maxHeartbeats 2000000 in
theorem l02Out_any (v : Value) (zs : List Int) (w : World) (h : Ints w v zs) (hn : zs.length ≤ 1048576) (hu : upTo zs 20000 = true) :
    Calls Tryz.prog 74 #[v] w fun e w' => ∃ r, e = .returned r ∧ Own w' w.heap.size r (outD zs) ∧ Below w.heap.size w w' := by
  obtain ⟨i0, hi, hz0, hz1, hz2⟩ := info_parts info64
  by_cases h0 : zs.length = 0
  · have hx : zs = [] := List.length_eq_zero_iff.1 h0
    subst hx
    obtain ⟨a1, c1, rfl⟩ := h.nil
    go_enter Tryz.func74, Tryz.ntmps74
    go_wp2
    go_rounds 1
    go_ret
    exact ⟨_, rfl, World.ownsRow_made w #[] 0 (Nat.le_refl _) (by decide) rfl, (Below.refl _ _).alloc (Nat.le_refl _) _⟩
  · obtain ⟨b1, o1, c1, rfl, hc1⟩ := h.pos (by omega)
    have U1 := Lib.hid (outD_step zs)
    have U2 := Lib.hid (outD_take zs)
    have U3 := Lib.hid (outD_all zs)
    have U4 := Lib.hid (fun k hk => upTo_get hu k hk)
    have hbw : b1 < w.heap.size := by
      rcases h with ⟨_, _, h1, _⟩ | ⟨b, off, cap, h1, _, hb, _⟩
      · simp only [Value.slice.injEq] at h1; omega
      · simp only [Value.slice.injEq, Option.some.injEq, Addr.mk.injEq] at h1; omega
    obtain ⟨n, hln⟩ : ∃ n, n = zs.length := ⟨_, rfl⟩
    rw [← hln] at U1 U2 U3 U4 hc1 hn h0 ⊢
    have HC := Lib.hid hc1
    clear hc1 hln h hu
    obtain ⟨B, hBe⟩ : ∃ B, B = w.heap.size := ⟨_, rfl⟩
    have HB := Lib.hid hBe
    have hst0 : (w.alloc (.cells #[] 2)).ownsRow B 2 1 (.slice (some ⟨w.heap.size, 0, none⟩) 0 0) (2 * 0) ((outD (zs.take 0)).map (Value.int .i64)) := World.ownsRow_made w #[] 0 (by omega) (by decide) rfl
    have hst1 : Below B w (w.alloc (.cells #[] 2)) := (Below.refl _ _).alloc (by omega) _
    have S0 := Lib.hid hst0
    have S1 := Lib.hid hst1
    rw [← hBe] at hbw ⊢
    clear hst0 hst1 hBe
    go_enter Tryz.func74, Tryz.ntmps74
    go_wp2
    go_loopw [3, 4] (fun v i wr => ∃ (k : Nat) (u : Value), k ≤ n ∧ i = .int .i64 k ∧ u = v ∧ Hid (wr.ownsRow B 2 1 v (2 * k) ((outD (zs.take k)).map (Value.int .i64))) ∧ Hid (Below B w wr)) (fun _ i _ => n - (intOf i).toNat)
    case atStart => exact ⟨0, _, Nat.zero_le _, rfl, rfl, S0, S1⟩
    case round =>
      clear S0 S1
      obtain ⟨k, v, hk, rfl, rfl, hO, hE⟩ := hrel
      by_cases hlt : k < n
      · have c1 : wr.cell? ⟨b1, o1 + k, none⟩ = some (.int .i64 (zs.getD k 0)) := (hE.out.cell (p := ⟨b1, o1 + k, none⟩) hbw).trans (HC.out k hlt)
        have u4 := U4.out k hlt
        have u1 := U1.out k hlt
        obtain ⟨z, hz⟩ : ∃ z, z = zs.getD k 0 := ⟨_, rfl⟩
        rw [← hz] at c1 u4 u1
        have HU := Lib.hid u1
        clear hz u1
        have hk0 : (0 : Int) ≤ (k : Int) := Int.natCast_nonneg _
        have hk1 : (k : Int) < (n : Int) := by omega
        have hsz : b1 < wr.heap.size := Nat.lt_of_lt_of_le hbw (by have := hE.out.size; rw [HB.out]; exact this)
        have hszB : B ≤ wr.heap.size := by have := hE.out.size; rw [HB.out]; exact this
        have hne1 : some b1 ≠ v.ownBlock := fun e => by
          have := (hO.out.lt b1 e.symm).1
          omega
        have w1e : Hid (IntKind.i64.wrap ((IntKind.i64.wrap (z + 1)).tdiv 2) = (z + 1) / 2) := by
          exact half_up u4.1 u4.2
        have w2e : Hid (IntKind.i64.wrap (z.tdiv 2) = z / 2) := by
          exact half_down u4.1 u4.2
        go_wp2_with fail
        go_region_held3 (fun w' => w'.cell? ⟨b1, o1 + k, none⟩ = some (.int .i64 z)) (first | go_keep | exact hgrow.cell (by assumption) hne1)
          ((refine step_append_lies _ (by rfl) _ _ _ (by rfl) B 2 i0 (.int .i64 0) 1 8 Tryz.underlying24 hi hz0 hz1 hz2 rfl (by omega) v (2 * k) _ (by rfl) ((hO.out.alloc _)) ⟨wr.heap.size, 0, none⟩ 2 2 [.int .i64 (IntKind.i64.wrap ((IntKind.i64.wrap (z + 1)).tdiv 2)), .int .i64 (IntKind.i64.wrap (z.tdiv 2))] (by rfl) (by rfl) (World.news_of_block (cs := #[.int .i64 (IntKind.i64.wrap ((IntKind.i64.wrap (z + 1)).tdiv 2)), .int .i64 (IntKind.i64.wrap (z.tdiv 2))]) (t := 2) (fr := (0, 0)) (heap_alloc_new wr _)) (two_one _ _) (by omega) (by unfold maxLen; omega) (by omega) (by simp; omega) (wr.heap.size + 1) (by simp) ?_; intro gg cap w1 hown1 hgrow hat hlt2))
        rw [w1e.out, w2e.out] at hown1
        have hE2 := hE.out.grown (grown_drew hgrow) hszB (fun k hk => by rw [HB.out]; exact HB.out ▸ (hO.out.lt k hk).1)
        have HO2 : Hid (w1.ownsRow B 2 1 (.slice (some ⟨gg, 0, none⟩) (2 * k + 2) cap) (2 * (k + 1)) ((outD (zs.take (k + 1))).map (Value.int .i64))) := by
          rw [HU.out, List.map_append]
          exact hown1
        clear hgrow hown1 hat hlt2
        go_wp2
        go_roundw
        case rel => exact ⟨k + 1, _, by omega, by go_num, rfl, HO2, hE2⟩
        case measure => simp [intOf]; omega
      · have hkn : k = n := by omega
        subst hkn
        have e := hO.out
        rw [U3.out] at e
        have HE := Lib.hid e
        have HL : Hid ((outD zs).length = 2 * k) := by
          rw [← U3.out]
          exact U2.out k (Nat.le_refl _)
        clear e
        go_wp2
        go_ret
        refine ⟨_, rfl, ?_, hE.out⟩
        unfold Own
        rw [HL.out]
        exact HE.out
end Go.Proofs.YtpnfombolnaldaaGreatDoor
