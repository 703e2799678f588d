/-
  No statement is proved here: the library's Clone and Reverse at webs; condition: at least one number and at most 1048576.
-/
import Derived.Test.YtpnfombolnaldaaGreatDoorOut
namespace Go.Proofs.YtpnfombolnaldaaGreatDoor
open Go.ChangeShapes Go.WideShapes Go.ChangeAt Go.RowKit

attribute [local go_sem ↓] Go.wp_at_zero Go.wp_at_succ

theorem grown_then_drew {w w' : World} {row : Option Nat} (h : w.grownBy w' row) : w.grownBy w'.drew row := ⟨h.os, h.tape, h.output, h.size, h.block⟩
theorem news_of {w : World} {b o n : Nat} {zs : List Int} (hn : n = zs.length) (hc : ∀ j, j < n → w.cell? ⟨b, o + j, none⟩ = some (.int .i64 (zs.getD j 0))) :
    ∀ j u, (zs.map (Value.int .i64))[j]? = some u → w.cell? ((⟨b, o, none⟩ : Addr).add j) = some u := by
  intro j u hu
  have hj : j < zs.length := by
    have := (List.getElem?_eq_some_iff.1 hu).1
    simpa using this
  rw [cellOf hj] at hu
  rw [add_plain, hc j (by omega)]
  exact hu

set_option maxRecDepth 100000 in
set_option maxHeartbeats 2000000 in
theorem clone_any (v : Value) (zs : List Int) (w : World) (h : Ints w v zs) (hn : zs.length ≤ 1048576) (hp : 0 < zs.length) :
    Calls Tryz.prog 39 #[v] w fun e w' => ∃ r, e = .returned r ∧ Own w' w.heap.size r zs ∧ Below w.heap.size w w' := by
  obtain ⟨i0, hi, hz0, hz1, hz2⟩ := info_parts info64
  have hbw0 := h.blk hp
  obtain ⟨b1, o1, c1, rfl, hc1⟩ := h.pos hp
  have hbw : b1 < w.heap.size := hbw0 b1 o1 none _ _ rfl
  clear h hbw0
  have hc2 : ∀ j, j < zs.length → (w.alloc (.cells #[] 2)).cell? ⟨b1, o1 + j, none⟩ = some (.int .i64 (zs.getD j 0)) := fun j hj => (((Below.refl w.heap.size w).alloc (Nat.le_refl _) _).cell (p := ⟨b1, o1 + j, none⟩) hbw).trans (hc1 j hj)
  have N1 := Lib.hid (news_of rfl hc2)
  have O1 := Lib.hid (World.ownsRow_made (base := w.heap.size) (e := 2) (size := 1) w #[] 0 (Nat.le_refl _) (by decide) rfl)
  unfold Own
  have HM := Lib.hid (show (zs.map (Value.int .i64)).length = zs.length from List.length_map _)
  obtain ⟨n, hln⟩ : ∃ n, n = zs.length := ⟨_, rfl⟩
  rw [← hln] at hn hp HM ⊢
  clear hln hc1 hc2
  go_enter Tryz.func39, Tryz.ntmps39
  have hnil : ∀ wx : World, (Go.binOp BinOp.eql 60 (Value.slice (some ⟨b1, o1, none⟩) n c1) (Value.slice none 0 0)).run Tryz.prog wx = .ok (.bool false) wx := fun wx => by
    first | kernel_rfl | rfl | (simp [go_sem, Tryz.underlying60])
  go_wp2_with (first
    | (at_builtin; refine wpList_append_lies _ rfl _ _ _ rfl w.heap.size 2 i0 (.int .i64 0) 1 8 Tryz.underlying60 hi hz0 hz1 hz2 rfl (by omega) _ 0 [] rfl O1.out ⟨b1, o1, none⟩ n c1 (zs.map (Value.int .i64)) rfl (by rw [HM.out, Nat.mul_one]) N1.out (ints_oneCell _ _) (by omega) (by unfold maxLen; omega) (by omega) (by simp) (w.heap.size + 1) (by simp) ?_; intro gg cap w1 hown1 hgrow hat hlt2)
    | go_in)
  go_returns
  have hrow := grown_alloc hgrow
  refine ⟨_, rfl, ?_, (Below.refl _ _).grown hrow (Nat.le_refl _) (fun k hk => ?_)⟩
  · simpa using hown1
  · exact Nat.le_of_eq (Option.some.inj hk)

/-- The first i and the last i numbers have changed places. -/
def revTo (zs : List Int) (i : Nat) : List Int := (List.range zs.length).map fun j => if j < i ∨ zs.length - i ≤ j then zs.getD (zs.length - 1 - j) 0 else zs.getD j 0
theorem revTo_length (zs : List Int) (i : Nat) : (revTo zs i).length = zs.length := by simp [revTo]
theorem revTo_get (zs : List Int) (i j : Nat) (hj : j < zs.length) : (revTo zs i).getD j 0 = if j < i ∨ zs.length - i ≤ j then zs.getD (zs.length - 1 - j) 0 else zs.getD j 0 := by
  simp [revTo, List.getD, hj]
theorem ext_getD {xs ys : List Int} (hl : xs.length = ys.length) (h : ∀ j, j < xs.length → xs.getD j 0 = ys.getD j 0) : xs = ys := eq_of_all hl h
theorem getD_set (xs : List Int) (i j : Nat) (a : Int) (hj : j < xs.length) : (xs.set i a).getD j 0 = if i = j then a else xs.getD j 0 := by
  rw [List.getD, List.getElem?_set]
  split
  · rename_i e
    subst e
    simp [hj]
  · rfl
theorem revTo_zero (zs : List Int) : revTo zs 0 = zs := by
  refine ext_getD (revTo_length zs 0) fun j hj => ?_
  rw [revTo_length] at hj
  rw [revTo_get zs 0 j hj, if_neg (by omega)]
theorem revTo_step (zs : List Int) (i : Nat) (hi : i < zs.length - 1 - i) : ((revTo zs i).set i (zs.getD (zs.length - 1 - i) 0)).set (zs.length - 1 - i) (zs.getD i 0) = revTo zs (i + 1) := by
  refine ext_getD (by simp [revTo_length]) fun j hj => ?_
  simp only [List.length_set, revTo_length] at hj
  rw [getD_set _ _ _ _ (by simpa [revTo_length] using hj), getD_set _ _ _ _ (by simpa [revTo_length] using hj), revTo_get zs i j hj, revTo_get zs (i + 1) j hj]
  by_cases h1 : zs.length - 1 - i = j
  · rw [if_pos h1, if_pos (by omega)]
    congr 1
    omega
  · rw [if_neg h1]
    by_cases h2 : i = j
    · rw [if_pos h2, if_pos (by omega), h2]
    · rw [if_neg h2]
      by_cases h3 : j < i ∨ zs.length - i ≤ j
      · rw [if_pos h3, if_pos (by omega)]
      · rw [if_neg h3, if_neg (by omega)]
theorem revTo_all (zs : List Int) (i : Nat) (hi : zs.length - 1 - i ≤ i) : revTo zs i = zs.reverse := by
  refine ext_getD (by simp [revTo_length]) fun j hj => ?_
  rw [revTo_length] at hj
  have er : zs.reverse.getD j 0 = zs.getD (zs.length - 1 - j) 0 := by
    simp [List.getD, List.getElem?_reverse hj]
  rw [revTo_get zs i j hj, er]
  by_cases h3 : j < i ∨ zs.length - i ≤ j
  · rw [if_pos h3]
  · rw [if_neg h3]
    congr 1
    omega

set_option maxRecDepth 100000 in
set_option maxHeartbeats 2000000 in
theorem reverse_any (v : Value) (zs : List Int) (base : Nat) (w : World) (h : Own w base v zs) (hn : zs.length ≤ 1048576) (hp : 0 < zs.length) :
    Calls Tryz.prog 76 #[v] w fun e w' => e = .returned (.tuple #[]) ∧ Own w' base v zs.reverse ∧ w.grownBy w' v.ownBlock := by
  rcases h.block with ⟨rfl, rfl⟩ | ⟨g, cap, rfl, hbg, hg, _, hc, hf⟩
  · simp at hp
  · clear hc hf
    have hrow := h.row
    unfold Own
    rw [List.length_reverse]
    have HS := Lib.hid (revTo_step zs)
    have HG := Lib.hid (revTo_get zs)
    have HA := Lib.hid (revTo_all zs)
    have HLn := Lib.hid (revTo_length zs)
    rw [← revTo_zero zs] at hrow
    rw [revTo_length] at hrow
    obtain ⟨n, hln⟩ : ∃ n, n = zs.length := ⟨_, rfl⟩
    rw [← hln] at hn hp hrow HS HG HA HLn ⊢
    have HW := Lib.hid hrow
    clear hln h hrow
    go_enter Tryz.func76, Tryz.ntmps76
    go_wp2
    go_loopw [2, 3] (fun i jj wr => ∃ k j : Nat, k + j + 1 = n ∧ i = .int .i64 k ∧ jj = .int .i64 j ∧ Hid (wr.ownsRow base 2 1 (.slice (some ⟨g, 0, none⟩) n cap) n ((revTo zs k).map (Value.int .i64))) ∧ Hid (w.grownBy wr (some g))) (fun i _ _ => n - (intOf i).toNat)
    case atStart => exact ⟨0, n - 1, by omega, rfl, by go_num, HW, World.grownBy.refl _ _⟩
    case round =>
      obtain ⟨k, j, hkj, rfl, rfl, hO, hG⟩ := hrel
      by_cases hlt : k < j
      · have c1 : wr.cell? ⟨g, k, none⟩ = some (.int .i64 ((revTo zs k).getD k 0)) := (hO.out.cellAt k (by omega)).trans (cellOf (by rw [HLn.out]; omega))
        have c2 : wr.cell? ⟨g, j, none⟩ = some (.int .i64 ((revTo zs k).getD j 0)) := (hO.out.cellAt j (by omega)).trans (cellOf (by rw [HLn.out]; omega))
        have f1 : wr.frozen? ⟨g, k, none⟩ = false := hO.out.frozenAt k
        have f2 : wr.frozen? ⟨g, j, none⟩ = false := hO.out.frozenAt j
        rw [HG.out k k (by omega), if_neg (by omega)] at c1
        rw [HG.out k j (by omega), if_neg (by omega)] at c2
        have hjn : n - 1 - k = j := by omega
        have hS := HS.out k (by omega)
        rw [hjn] at hS
        obtain ⟨a, ha⟩ : ∃ a, a = zs.getD k 0 := ⟨_, rfl⟩
        obtain ⟨b, hb⟩ : ∃ b, b = zs.getD j 0 := ⟨_, rfl⟩
        rw [← ha] at c1 hS
        rw [← hb] at c2 hS
        have HSS := Lib.hid hS
        clear hS ha hb hjn
        have hne : k ≠ j := by omega
        go_wp2_with fail
        go_region
        all_goals
          go_wp2_with fail
          have h1 := hO.out.stored k (Value.int .i64 b)
          have h2 := h1.1.stored j (Value.int .i64 a)
          have h3 := h2.1
          rw [← List.map_set, ← List.map_set, HSS.out] at h3
          go_roundw
          case rel => exact ⟨k + 1, j - 1, by omega, by go_num, by go_num, Lib.hid h3, Lib.hid (grown_then_drew (w' := (wr.setCell ⟨g, k, none⟩ (Value.int .i64 b)).setCell ⟨g, j, none⟩ (Value.int .i64 a)) (grown_trans hG.out (grown_trans (b := (wr.setCell ⟨g, k, none⟩ (Value.int .i64 b))) h1.2 h2.2)))⟩
          case measure => simp [intOf]; omega
      · have e : revTo zs k = zs.reverse := HA.out k (by omega)
        go_wp2_with fail
        go_returns
        refine ⟨rfl, ?_, hG.out⟩
        have h := hO.out
        rw [e] at h
        exact h
end Go.Proofs.YtpnfombolnaldaaGreatDoor
