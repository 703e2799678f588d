/-
  No statement is proved here: the library's Grow and Concat at moves; condition: at most 1048576 moves.
-/
import Derived.Test.YtphinokacggnfaaUnM
import Derived.Laws.OwnMore
import Derived.Lib.AppendZeros
import Derived.Deep.DrawnRows
import Derived.Deep.AppendLies
namespace Go.Proofs.Ytphinokacggnfaa
open Go.ChangeShapes Go.WideShapes Go.ChangeAt Go.RowKit

attribute [local go_sem ↓] Go.wp_at_zero Go.wp_at_succ
set_option maxRecDepth 100000 in
set_option maxHeartbeats 2000000 in
theorem growMv_any (n : Nat) (w : World) (hn : n ≤ 1048576) :
    Calls Try.prog 52 #[.slice none 0 0, .int .i64 n] w fun e w' => ∃ r, e = .returned r ∧ w'.ownsRow w.heap.size 53 3 r 0 [] ∧ Below w.heap.size w w' := by
  obtain ⟨i0, hi, hz0, hz1, hz2⟩ := info_parts infoMove
  by_cases hp : 0 < n
  · have hlow : n ≤ grownCap w n 0 53 := by
      have := grownCap_ge w n 0 53
      exact this
    have hrun := Lib.run_append_nil_zeros (P := Try.prog) w 25 3 25 53 i0 (.agg #[.int .i8 0, .int .i8 0, .int .i16 0]) .i64 .i64 Try.underlying25 Try.underlying3 hi hz0 n hp (by rw [hz1]; decide) (by omega) (by rw [hz2]; omega)
    have hmax := grownCap_le_maxLen w n 0 53 (by unfold maxLen; omega)
    obtain ⟨cap, hcap⟩ : ∃ cap, cap = grownCap w n 0 53 := ⟨_, rfl⟩
    rw [← hcap] at hrun hlow hmax
    have HMAX := Lib.hid hmax
    have HRUN := Lib.hid hrun
    have hc0 : (0 : Int) ≤ (cap : Int) := by omega
    have HLOW := Lib.hid hlow
    have hn0 : ¬ ((n : Int) < 0) := by omega
    have hn1 : (0 : Int) < (n : Int) := by omega
    clear hrun hcap hlow hmax
    go_enter Try.func52, Try.ntmps52
    go_wp2_with (first | (at_builtin; refine Lib.wpList_append_run _ rfl _ _ _ _ rfl _ _ rfl rfl _ _ HRUN.out ?_) | go_in)
    go_returns
    refine ⟨_, rfl, World.ownsRow_made w.drew _ cap (Nat.le_refl _) HMAX.out ?_, ?_⟩
    · have := HLOW.out
      rw [Array.size_append, size_zeroCells, size_zeroCells]
      show n * 3 + (cap - n) * 3 = cap * 3
      omega
    · exact ((Below.refl _ _).drew).alloc (Nat.le_refl _) _
  · obtain rfl : n = 0 := by omega
    go_enter Try.func52, Try.ntmps52
    go_wp2
    go_returns
    exact ⟨_, rfl, World.ownsRow_nil _ _ _ _, Below.refl _ _⟩

set_option maxRecDepth 100000 in
set_option maxHeartbeats 4000000 in
theorem concatMv_any (xs ys : List Mv) (ad ad2 : Addr) (n1 n2 ca cb bb : Nat) (w : World) (h1 : n1 = xs.length) (h2 : n2 = ys.length)
    (c0 : w.cell? ⟨bb, 0, none⟩ = some (.slice (some ad) n1 ca)) (c1 : w.cell? ⟨bb, 1, none⟩ = some (.slice (some ad2) n2 cb)) (hbb : bb < w.heap.size)
    (hA : ∀ W, Below w.heap.size w W → ∀ j u, (cellsMv xs)[j]? = some u → W.cell? (ad.add j) = some u) (hB : ∀ W, Below w.heap.size w W → ∀ j u, (cellsMv ys)[j]? = some u → W.cell? (ad2.add j) = some u) (hn : n1 + n2 ≤ 1048576) :
    Calls Try.prog 46 #[.slice (some ⟨bb, 0, none⟩) 2 2] w fun e w' => ∃ r, e = .returned r ∧ w'.ownsRow w.heap.size 53 3 r (n1 + n2) (cellsMv (xs ++ ys)) ∧ Below w.heap.size w w' := by
  obtain ⟨i0, hi, hz0, hz1, hz2⟩ := info_parts infoMove
  have HXL := Lib.hid (show (cellsMv xs).length = n1 * 3 by rw [cellsMv_length, h1])
  have HYL := Lib.hid (show (cellsMv ys).length = n2 * 3 by rw [cellsMv_length, h2])
  have HX1 := Lib.hid (cellsMv_one xs)
  have HY1 := Lib.hid (cellsMv_one ys)
  have HA := Lib.hid hA
  have HB := Lib.hid hB
  have HCAST := Lib.hid (show ((n1 : Int) + (n2 : Int)) = ((n1 + n2 : Nat) : Int) by omega)
  have hgr := growMv_any (n1 + n2) w hn
  rw [← HCAST.out] at hgr
  have HG := Lib.hid hgr
  clear hgr h1 h2 hA hB
  go_enter Try.func46, Try.ntmps46
  go_wp2_with fail
  refine wp_loop_rounds 3 ?_
  rw [rounds_succ]
  go_wp2_with fail
  rw [rounds_succ]
  go_wp2_with fail
  rw [rounds_succ]
  go_wp2_with fail
  refine HG.out.mono ?_
  rintro e w1 ⟨r1, rfl, own1, hB1⟩
  have T1 := Lib.hid hB1
  have O1 := Lib.hid own1
  have d0 : w1.cell? ⟨bb, 0, none⟩ = some (.slice (some ad) n1 ca) := (hB1.cell (p := ⟨bb, 0, none⟩) hbb).trans c0
  have hs1 : w.heap.size ≤ w1.heap.size := hB1.size
  have C0 := Lib.hid c0
  have C1 := Lib.hid c1
  clear own1 hB1 c0 c1
  go_wp2_with fail
  refine wp_loop_rounds 3 ?_
  rw [rounds_succ]
  go_wp2_with (first
    | (at_builtin; refine wpList_append_own _ rfl _ _ 25 rfl w.heap.size 53 i0 (.agg #[.int .i8 0, .int .i8 0, .int .i16 0]) 3 4 Try.underlying25 hi hz0 hz1 hz2 rfl (by decide) r1 0 [] rfl O1.out ad n1 ca (cellsMv xs) rfl HXL.out (HA.out _ T1.out) HX1.out (by unfold maxLen; omega) (by omega) hs1 ?_; intro v2 w2 hown2 hgrow2 _)
    | go_in)
  have t2 : Below w.heap.size w w2 := T1.out.grown hgrow2 hs1 (fun k hk => (World.ownsRow.lt O1.out k hk).1)
  have d1 : w2.cell? ⟨bb, 1, none⟩ = some (.slice (some ad2) n2 cb) := (t2.cell (p := ⟨bb, 1, none⟩) hbb).trans C1.out
  have T2 := Lib.hid t2
  have O2 := Lib.hid hown2
  have hs2 : w.heap.size ≤ w2.heap.size := t2.size
  clear t2 hgrow2 hown2 d0
  rw [rounds_succ]
  go_wp2_with (first
    | (at_builtin; refine wpList_append_own _ rfl _ _ 25 rfl w.heap.size 53 i0 (.agg #[.int .i8 0, .int .i8 0, .int .i16 0]) 3 4 Try.underlying25 hi hz0 hz1 hz2 rfl (by decide) v2 (0 + n1) ([] ++ cellsMv xs) rfl O2.out ad2 n2 cb (cellsMv ys) rfl HYL.out (HB.out _ T2.out) HY1.out (by unfold maxLen; omega) (by omega) hs2 ?_; intro v3 w3 hown3 hgrow3 _)
    | go_in)
  have T3 : Hid (Below w.heap.size w w3) := T2.out.grown hgrow3 hs2 (fun k hk => (World.ownsRow.lt O2.out k hk).1)
  have O3 : Hid (w3.ownsRow w.heap.size 53 3 v3 (n1 + n2) (cellsMv (xs ++ ys))) := Lib.hid (by
    rw [cellsMv_app]
    rw [Nat.zero_add, List.nil_append] at hown3
    exact hown3)
  clear hown3 hgrow3 d1
  rw [rounds_succ]
  go_wp2_with fail
  go_ret
  exact ⟨_, rfl, O3.out, T3.out⟩
end Go.Proofs.Ytphinokacggnfaa
