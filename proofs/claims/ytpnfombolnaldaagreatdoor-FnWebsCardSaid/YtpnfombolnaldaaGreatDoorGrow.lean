/-
  No statement is proved here: the library's Grow and Concat at webs; condition: at most 1048576 numbers.
-/
import Derived.Test.YtpnfombolnaldaaGreatDoorHalves
import Derived.Lib.AppendZeros
namespace Go.Proofs.YtpnfombolnaldaaGreatDoor
open Go.ChangeShapes Go.WideShapes Go.ChangeAt Go.RowKit

attribute [local go_sem ↓] Go.wp_at_zero Go.wp_at_succ

theorem Ints.news {w : World} {ad : Addr} {n c : Nat} {xs : List Int} (h : Ints w (.slice (some ad) n c) xs) : ∀ j u, (xs.map (Value.int .i64))[j]? = some u → w.cell? (ad.add j) = some u := by
  rcases h with ⟨a, cap, _, rfl⟩ | ⟨b, off, cap, e, _, _, hc⟩
  · intro j u hu
    simp at hu
  · simp only [Value.slice.injEq, Option.some.injEq] at e
    obtain ⟨rfl, rfl, rfl⟩ := e
    exact news_of rfl hc
theorem owns_none {w : World} {base : Nat} {e : TypeId} {g n cap : Nat} {xs : List Value} (h : w.ownsRow base e 1 (.slice (some ⟨g, 0, none⟩) n cap) n xs) : w.ownsRow base e 1 (.slice (some ⟨g, 0, none⟩) 0 cap) 0 [] := by
  refine ⟨rfl, ?_⟩
  rcases h.2 with ⟨h', _⟩ | ⟨g', cap', cur, h', hb, hg, hnc, hcm, hcs, _⟩
  · simp at h'
  · simp only [Value.slice.injEq, Option.some.injEq, Addr.mk.injEq, and_true, true_and] at h'
    obtain ⟨rfl, rfl⟩ := h'
    exact .inr ⟨g, cap, cur, rfl, hb, hg, Nat.zero_le _, hcm, hcs, by simp⟩

set_option maxRecDepth 100000 in
set_option maxHeartbeats 2000000 in
theorem grow_any (n : Nat) (w : World) (hp : 0 < n) (hn : n ≤ 1048576) :
    Calls Tryz.prog 98 #[.slice none 0 0, .int .i64 n] w fun e w' => ∃ r, e = .returned r ∧ Own w' w.heap.size r [] ∧ Below w.heap.size w w' := by
  obtain ⟨i0, hi, hz0, hz1, hz2⟩ := info_parts info64
  have hlow : n ≤ grownCap w n 0 2 := by
    have := grownCap_ge w n 0 2
    exact this
  have hrun := Lib.run_append_nil_zeros (P := Tryz.prog) w 60 3 60 2 i0 (.int .i64 0) .i64 .i64 Tryz.underlying60 Tryz.underlying3 hi hz0 n hp (by rw [hz1]; decide) (by omega) (by rw [hz2]; omega)
  have hmax := grownCap_le_maxLen w n 0 2 (by unfold maxLen; omega)
  obtain ⟨cap, hcap⟩ : ∃ cap, cap = grownCap w n 0 2 := ⟨_, rfl⟩
  rw [← hcap] at hrun hlow hmax
  have HMAX := Lib.hid hmax
  have HRUN := Lib.hid hrun
  have hc0 : (0 : Int) ≤ (cap : Int) := by omega
  have HLOW := Lib.hid hlow
  have hn0 : ¬ ((n : Int) < 0) := by omega
  have hn1 : (0 : Int) < (n : Int) := by omega
  clear hrun hcap hlow hmax
  go_enter Tryz.func98, Tryz.ntmps98
  go_wp2_with (first | (at_builtin; refine Lib.wpList_append_run _ rfl _ _ _ _ rfl _ _ rfl rfl _ _ HRUN.out ?_) | go_in)
  go_returns
  refine ⟨_, rfl, World.ownsRow_made w.drew _ cap (Nat.le_refl _) HMAX.out ?_, ?_⟩
  · have := HLOW.out
    rw [Array.size_append, size_zeroCells, size_zeroCells]
    show n * 1 + (cap - n) * 1 = cap * 1
    omega
  · exact ((Below.refl _ _).drew).alloc (Nat.le_refl _) _

set_option maxRecDepth 100000 in
set_option maxHeartbeats 2000000 in
theorem concat_any (xs ys : List Int) (va vb : Value) (bb : Nat) (w : World) (ha : Ints w va xs) (hb : Ints w vb ys) (c0 : w.cell? ⟨bb, 0, none⟩ = some va) (c1 : w.cell? ⟨bb, 1, none⟩ = some vb) (hbb : bb < w.heap.size)
    (hxa : ∃ ad c, va = .slice (some ad) xs.length c) (hyb : ∃ ad c, vb = .slice (some ad) ys.length c) (hn : xs.length + ys.length ≤ 1048576) (hp : 0 < xs.length + ys.length) :
    Calls Tryz.prog 75 #[.slice (some ⟨bb, 0, none⟩) 2 2] w fun e w' => ∃ r, e = .returned r ∧ Own w' w.heap.size r (xs ++ ys) ∧ Below w.heap.size w w' := by
  obtain ⟨i0, hi, hz0, hz1, hz2⟩ := info_parts info64
  obtain ⟨ad, ca, rfl⟩ := hxa
  obtain ⟨ad2, cb, rfl⟩ := hyb
  have HA := Lib.hid ha
  have HB := Lib.hid hb
  have HXL := Lib.hid (show (xs.map (Value.int .i64)).length = xs.length * 1 by simp)
  have HYL := Lib.hid (show (ys.map (Value.int .i64)).length = ys.length * 1 by simp)
  obtain ⟨n1, hn1⟩ : ∃ n1, n1 = xs.length := ⟨_, rfl⟩
  obtain ⟨n2, hn2⟩ : ∃ n2, n2 = ys.length := ⟨_, rfl⟩
  have HN1 := Lib.hid hn1
  have HN2 := Lib.hid hn2
  rw [← hn1] at HA HXL c0 hn hp
  rw [← hn2] at HB HYL c1 hn hp
  clear hn1 hn2 ha hb
  have HCAST := Lib.hid (show ((n1 : Int) + (n2 : Int)) = ((n1 + n2 : Nat) : Int) by omega)
  have hgr := grow_any (n1 + n2) w hp hn
  rw [← HCAST.out] at hgr
  have HG := Lib.hid hgr
  clear hgr
  go_enter Tryz.func75, Tryz.ntmps75
  go_wp2_with fail
  refine wp_loop_rounds 3 ?_
  rw [rounds_succ]
  go_wp2_with fail
  rw [rounds_succ]
  go_wp2_with fail
  rw [rounds_succ]
  go_wp2_with fail
  refine HG.out.mono ?_
  rintro e w1 ⟨r1, rfl, own1, hB1⟩
  have T1 := Lib.hid hB1
  have O1 := Lib.hid own1
  have d0 : w1.cell? ⟨bb, 0, none⟩ = some (.slice (some ad) n1 ca) := (hB1.cell (p := ⟨bb, 0, none⟩) hbb).trans c0
  have D1 := Lib.hid ((hB1.cell (p := ⟨bb, 1, none⟩) hbb).trans c1)
  have NA := Lib.hid (HA.out.below hB1).news
  have hs1 : w.heap.size ≤ w1.heap.size := hB1.size
  have C0 := Lib.hid c0
  have C1 := Lib.hid c1
  clear own1 hB1 c0 c1
  go_wp2_with fail
  refine wp_loop_rounds 3 ?_
  rw [rounds_succ]
  go_wp2_with (first
    | (at_builtin; refine wpList_append_own _ rfl _ _ 60 rfl w.heap.size 2 i0 (.int .i64 0) 1 8 Tryz.underlying60 hi hz0 hz1 hz2 rfl (by decide) r1 0 [] rfl O1.out ad n1 ca (xs.map (Value.int .i64)) rfl HXL.out NA.out (ints_oneCell _ _) (by unfold maxLen; omega) (by omega) hs1 ?_; intro v2 w2 hown2 hgrow2 _)
    | go_in)
  have t2 : Below w.heap.size w w2 := T1.out.grown hgrow2 hs1 (fun k hk => (O1.out.lt k hk).1)
  have d1 : w2.cell? ⟨bb, 1, none⟩ = some (.slice (some ad2) n2 cb) := (t2.cell (p := ⟨bb, 1, none⟩) hbb).trans C1.out
  have NB := Lib.hid (HB.out.grown O1.out (Nat.le_refl _) T1.out hgrow2).news
  have T2 := Lib.hid t2
  have O2 := Lib.hid hown2
  have hs2 : w.heap.size ≤ w2.heap.size := t2.size
  clear t2 hgrow2 hown2 d0
  rw [rounds_succ]
  go_wp2_with (first
    | (at_builtin; refine wpList_append_own _ rfl _ _ 60 rfl w.heap.size 2 i0 (.int .i64 0) 1 8 Tryz.underlying60 hi hz0 hz1 hz2 rfl (by decide) v2 (0 + n1) ([] ++ xs.map (Value.int .i64)) rfl O2.out ad2 n2 cb (ys.map (Value.int .i64)) rfl HYL.out NB.out (ints_oneCell _ _) (by unfold maxLen; omega) (by omega) hs2 ?_; intro v3 w3 hown3 hgrow3 _)
    | go_in)
  have T3 : Hid (Below w.heap.size w w3) := T2.out.grown hgrow3 hs2 (fun k hk => (O2.out.lt k hk).1)
  have O3 : Hid (Own w3 w.heap.size v3 (xs ++ ys)) := by
    show Own w3 w.heap.size v3 (xs ++ ys)
    unfold Own
    rw [List.length_append, ← HN1.out, ← HN2.out, List.map_append]
    rw [Nat.zero_add, List.nil_append] at hown3
    exact hown3
  clear hown3 hgrow3 d1
  rw [rounds_succ]
  go_wp2_with fail
  go_ret
  exact ⟨_, rfl, O3.out, T3.out⟩
end Go.Proofs.YtpnfombolnaldaaGreatDoor
