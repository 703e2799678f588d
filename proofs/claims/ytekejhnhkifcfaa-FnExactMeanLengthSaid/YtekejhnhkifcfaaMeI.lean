/-
  No statement is proved here: the mean length of a heap in the program; conditions as stated.
-/
import Derived.Test.YtekejhnhkifcfaaLengths
import Derived.Test.YtekejhnhkifcfaaMeS
import Derived.Test.YtekejhnhkifcfaaWool
import Derived.Test.YtekejhnhkifcfaaWoF
import Derived.Deep.RegionWith
import Derived.Deep.RegionHeld3
import Derived.RegionDies
namespace Go.Proofs.Ytekejhnhkifcfaa
open Go.RowKit Go.Shelf

attribute [local go_sem] Oper.semAt_some

/-- The sum of some lengths, by their grams. -/
def psum (z : Nat → Int) : List (Fin 8) → Int
  | [] => 0
  | x :: xs => (x.val : Int) * z x.val + psum z xs
theorem psum_snoc (z : Nat → Int) (x : Fin 8) : ∀ pre : List (Fin 8), psum z (pre ++ [x]) = psum z pre + (x.val : Int) * z x.val
  | [] => by simp [psum]
  | y :: ys => by
    have ih := psum_snoc z x ys
    simp only [List.cons_append, psum, ih]
    omega
theorem psum_nz (z : Nat → Int) : ∀ k : Nat, k ≤ 8 → psum z (nz z k) = wsum z k
  | 0, _ => rfl
  | k + 1, hk => by
    have ih := psum_nz z k (by omega)
    by_cases h : z k = 0
    · rw [nz_zero h, ih, wsum, h]
      simp
    · rw [nz_some h (by omega), psum_snoc, ih, wsum]
theorem psum_bd {z : Nat → Int} (h : okH z = true) : ∀ pre : List (Fin 8), 0 ≤ psum z pre ∧ psum z pre ≤ 8000 * (pre.length : Int)
  | [] => by simp [psum]
  | y :: ys => by
    have ih := psum_bd h ys
    have b := okH_of h y.val y.isLt
    have hy := y.isLt
    have e1 : 0 ≤ (y.val : Int) * z y.val := Int.mul_nonneg (by omega) b.1
    have e2 : (y.val : Int) * z y.val ≤ 8 * 1000 := Int.mul_le_mul (by omega) b.2 b.1 (by omega)
    simp only [psum, List.length_cons]
    push_cast
    omega

/-- Between two rounds: the sum's box and the result's. -/
def SumI (B2 B1 : Nat) (z : Nat → Int) (pre : List (Fin 8)) (W : World) : Prop :=
  (W.cell? ⟨B2, 0, none⟩ = some (.int .i64 (psum z pre)) ∧ W.frozen? ⟨B2, 0, none⟩ = false) ∧
  (W.cell? ⟨B1, 0, none⟩ = some (.int .i64 0) ∧ W.frozen? ⟨B1, 0, none⟩ = false) ∧ (W.cell? ⟨B1, 1, none⟩ = some (.int .i64 0) ∧ W.frozen? ⟨B1, 1, none⟩ = false)
theorem sumI_own (B2 B1 : Nat) (z : Nat → Int) : Own (SumI B2 B1 z) := fun _ _ _ _ hs hg hr =>
  ⟨⟨cell_kept hs.1.1 hg hr, (frozen_kept hs.1.1 hg hr).trans hs.1.2⟩, ⟨cell_kept hs.2.1.1 hg hr, (frozen_kept hs.2.1.1 hg hr).trans hs.2.1.2⟩, ⟨cell_kept hs.2.2.1 hg hr, (frozen_kept hs.2.2.1 hg hr).trans hs.2.2.2⟩⟩
theorem sumI_step {B2 B1 : Nat} {z : Nat → Int} {pre : List (Fin 8)} {W : World} (h : SumI B2 B1 z pre W) (x : Fin 8) (h21 : B2 ≠ B1) :
    SumI B2 B1 z (pre ++ [x]) (W.setCell ⟨B2, 0, none⟩ (.int .i64 (psum z pre + (x.val : Int) * z x.val))) := by
  refine ⟨⟨?_, by rw [World.frozen?_setCell]; exact h.1.2⟩, ⟨?_, by rw [World.frozen?_setCell]; exact h.2.1.2⟩, ⟨?_, by rw [World.frozen?_setCell]; exact h.2.2.2⟩⟩
  · rw [World.cell?_setCell_same' _ _ _ (by rw [h.1.1]; rfl), psum_snoc]
  · rw [World.cell?_setCell_other (h := fun hh => h21 (by injection hh))]
    exact h.2.1.1
  · rw [World.cell?_setCell_other (h := fun hh => h21 (by injection hh))]
    exact h.2.2.1

/-- What lies in memory behind the rounds. -/
structure Mq (w W : World) (B2 B1 hb D : Nat) (od : Obj) (s x0 x1 x2 x3 x4 x5 x6 x7 : Int) : Prop where
  sum : W.cell? ⟨B2, 0, none⟩ = some (.int .i64 s)
  r0 : W.cell? ⟨B1, 0, none⟩ = some (.int .i64 0)
  r1 : W.cell? ⟨B1, 1, none⟩ = some (.int .i64 0)
  f0 : W.frozen? ⟨B1, 0, none⟩ = false
  f1 : W.frozen? ⟨B1, 1, none⟩ = false
  h0 : W.cell? ⟨hb, 0, none⟩ = some (.int .i32 x0)
  h1 : W.cell? ⟨hb, 1, none⟩ = some (.int .i32 x1)
  h2 : W.cell? ⟨hb, 2, none⟩ = some (.int .i32 x2)
  h3 : W.cell? ⟨hb, 3, none⟩ = some (.int .i32 x3)
  h4 : W.cell? ⟨hb, 4, none⟩ = some (.int .i32 x4)
  h5 : W.cell? ⟨hb, 5, none⟩ = some (.int .i32 x5)
  h6 : W.cell? ⟨hb, 6, none⟩ = some (.int .i32 x6)
  h7 : W.cell? ⟨hb, 7, none⟩ = some (.int .i32 x7)
  ob : W.heap[D]? = some od
  bel : Below w.heap.size w W
theorem Mq.below {w W W' : World} {B2 B1 hb D : Nat} {od : Obj} {s x0 x1 x2 x3 x4 x5 x6 x7 : Int} (h : Mq w W B2 B1 hb D od s x0 x1 x2 x3 x4 x5 x6 x7) (hB : Below W.heap.size W W') : Mq w W' B2 B1 hb D od s x0 x1 x2 x3 x4 x5 x6 x7 := by
  have l1 := World.block_lt_of_cell? W _ h.sum
  have l2 := World.block_lt_of_cell? W _ h.r0
  have l3 := World.block_lt_of_cell? W _ h.h0
  exact ⟨kept hB l1 h.sum, kept hB l2 h.r0, kept hB l2 h.r1, (hB.frozen (p := ⟨B1, 0, none⟩) l2).trans h.f0, (hB.frozen (p := ⟨B1, 1, none⟩) l2).trans h.f1, kept hB l3 h.h0, kept hB l3 h.h1, kept hB l3 h.h2, kept hB l3 h.h3, kept hB l3 h.h4, kept hB l3 h.h5, kept hB l3 h.h6, kept hB l3 h.h7, (hB.block D (lt_of_block h.ob)).trans h.ob, h.bel.trans (hB.mono h.bel.size)⟩

set_option maxRecDepth 100000 in
set_option maxHeartbeats 8000000 in
theorem implMeanC_yes (x0 x1 x2 x3 x4 x5 x6 x7 : Int) (hok : okH (z8 x0 x1 x2 x3 x4 x5 x6 x7) = true) (hn : ¬ sumTo (z8 x0 x1 x2 x3 x4 x5 x6 x7) 8 = 0) (hb : Nat) (w : World) (hH : HeapAt w hb 0 (z8 x0 x1 x2 x3 x4 x5 x6 x7)) :
    Calls Try.prog 46 #[.pointer (some ⟨hb, 0, none⟩)] w fun e w' => e = .returned (.agg #[.int .i64 (lowN (wsum (z8 x0 x1 x2 x3 x4 x5 x6 x7) 8) (sumTo (z8 x0 x1 x2 x3 x4 x5 x6 x7) 8)), .int .i64 (lowD (wsum (z8 x0 x1 x2 x3 x4 x5 x6 x7) 8) (sumTo (z8 x0 x1 x2 x3 x4 x5 x6 x7) 8))]) ∧ Below w.heap.size w w' := by
  have hbz := hH.lt
  have HBZ := Lib.hid hbz
  have A0 : Below w.heap.size w ((w.alloc (.cells #[.int .i64 0, .int .i64 0] 38)).alloc (.cells #[.int .i64 0] 2)) := by go_grown
  have hH1 := hH.below A0 hbz
  have b0 : ((w.alloc (.cells #[.int .i64 0, .int .i64 0] 38)).alloc (.cells #[.int .i64 0] 2)).cell? ⟨hb, 0, none⟩ = some (.int .i32 x0) := hH1 0 (by omega)
  have b1 : ((w.alloc (.cells #[.int .i64 0, .int .i64 0] 38)).alloc (.cells #[.int .i64 0] 2)).cell? ⟨hb, 1, none⟩ = some (.int .i32 x1) := hH1 1 (by omega)
  have b2 : ((w.alloc (.cells #[.int .i64 0, .int .i64 0] 38)).alloc (.cells #[.int .i64 0] 2)).cell? ⟨hb, 2, none⟩ = some (.int .i32 x2) := hH1 2 (by omega)
  have b3 : ((w.alloc (.cells #[.int .i64 0, .int .i64 0] 38)).alloc (.cells #[.int .i64 0] 2)).cell? ⟨hb, 3, none⟩ = some (.int .i32 x3) := hH1 3 (by omega)
  have b4 : ((w.alloc (.cells #[.int .i64 0, .int .i64 0] 38)).alloc (.cells #[.int .i64 0] 2)).cell? ⟨hb, 4, none⟩ = some (.int .i32 x4) := hH1 4 (by omega)
  have b5 : ((w.alloc (.cells #[.int .i64 0, .int .i64 0] 38)).alloc (.cells #[.int .i64 0] 2)).cell? ⟨hb, 5, none⟩ = some (.int .i32 x5) := hH1 5 (by omega)
  have b6 : ((w.alloc (.cells #[.int .i64 0, .int .i64 0] 38)).alloc (.cells #[.int .i64 0] 2)).cell? ⟨hb, 6, none⟩ = some (.int .i32 x6) := hH1 6 (by omega)
  have b7 : ((w.alloc (.cells #[.int .i64 0, .int .i64 0] 38)).alloc (.cells #[.int .i64 0] 2)).cell? ⟨hb, 7, none⟩ = some (.int .i32 x7) := hH1 7 (by omega)
  have HH := Lib.hid hH
  clear hH hH1
  have HG := Lib.hid (okH_of hok)
  have HPB := Lib.hid (psum_bd hok)
  have HWO := Lib.hid fun wx => woolOf_yes x0 x1 x2 x3 x4 x5 x6 x7 hok hn wx
  have hsb := sum8_bd hok
  have HRE := Lib.hid fun wx => reduced_any (wsum (z8 x0 x1 x2 x3 x4 x5 x6 x7) 8) (sumTo (z8 x0 x1 x2 x3 x4 x5 x6 x7) 8) wx (by have := (wsum_bd hok (Nat.le_refl 8)); omega) (by have := (wsum_bd hok (Nat.le_refl 8)); omega) (by omega) (by omega) hn
  have HPN := Lib.hid (psum_nz (z8 x0 x1 x2 x3 x4 x5 x6 x7) 8 (Nat.le_refl _))
  generalize lowN (wsum (z8 x0 x1 x2 x3 x4 x5 x6 x7) 8) (sumTo (z8 x0 x1 x2 x3 x4 x5 x6 x7) 8) = rn at *
  generalize lowD (wsum (z8 x0 x1 x2 x3 x4 x5 x6 x7) 8) (sumTo (z8 x0 x1 x2 x3 x4 x5 x6 x7) 8) = rd at *
  refine (callsIn_wide (n := 9)).1 ?_
  refine callsIn_of_wp_marks Try.func46 rfl trivial ?_ rfl
  simp only [Try.ntmps46, List.size_toArray, List.length_cons, List.length_nil, Nat.reduceAdd, Nat.reduceSub, Array.replicate_succ, Array.replicate_zero, List.push_toArray, List.append_toArray, List.nil_append, List.cons_append]
  gi_wp2_with (first | (refine ⟨trivial, ?_⟩; gi_at_call 38; refine (lengths_in Fence.wide _ trivial rfl x0 x1 x2 x3 x4 x5 x6 x7 _).mono ?_; rintro e w' ⟨rfl, rfl⟩))
  obtain ⟨W0, hW0⟩ : ∃ W0, ((w.alloc (.cells #[.int .i64 0, .int .i64 0] 38)).alloc (.cells #[.int .i64 0] 2)).alloc (.cells #[.int .i32 x0, .int .i32 x1, .int .i32 x2, .int .i32 x3, .int .i32 x4, .int .i32 x5, .int .i32 x6, .int .i32 x7] 23) = W0 := ⟨_, rfl⟩
  have hs0 : W0.heap.size = w.heap.size + 3 := by rw [← hW0]; simp
  have hB0 : Below w.heap.size w W0 := by rw [← hW0]; go_grown
  have hI0 : SumI (w.heap.size + 1) w.heap.size (z8 x0 x1 x2 x3 x4 x5 x6 x7) [] W0 := by
    rw [← hW0]
    refine ⟨⟨?_, ?_⟩, ⟨?_, ?_⟩, ⟨?_, ?_⟩⟩ <;> simp [go_sem, psum]
  have hH0 : HeapAt W0 (w.heap.size + 1 + 1) 0 (z8 x0 x1 x2 x3 x4 x5 x6 x7) := by
    rw [← hW0]
    have := heapAt_alloc ((w.alloc (.cells #[.int .i64 0, .int .i64 0] 38)).alloc (.cells #[.int .i64 0] 2)) x0 x1 x2 x3 x4 x5 x6 x7 23
    simpa only [World.size_alloc] using this
  have hzb : bd32 (z8 x0 x1 x2 x3 x4 x5 x6 x7) := by
    have bx := ok8_of hok
    exact bd32_z8 (by unfold in32; omega) (by unfold in32; omega) (by unfold in32; omega) (by unfold in32; omega) (by unfold in32; omega) (by unfold in32; omega) (by unfold in32; omega) (by unfold in32; omega)
  rw [hW0]
  have hseq := lengths_stops Fence.wide (9 - 1) trivial rfl (by omega) (w.heap.size + 1 + 1) x0 x1 x2 x3 x4 x5 x6 x7 hzb (fun _ _ => True) W0 (by omega) hH0
  clear hW0 hH0 hok hn
  obtain ⟨z, hzz⟩ : ∃ z, z8 x0 x1 x2 x3 x4 x5 x6 x7 = z := ⟨_, rfl⟩
  rw [hzz] at HG hI0 hseq HPB HWO HRE HPN
  clear hzz hzb
  refine wpIn_rangeFunc_ownG rfl (by omega) (gf := 58) (lb := #[.pointer (some ⟨w.heap.size + 1 + 1, 0, none⟩)]) rfl trivial (enters_of Try.func58 (by kernel_rfl) rfl)
    hseq (fun _ _ => trivial) (fun _ _ _ _ _ _ _ _ => trivial) (Below.refl _ _) (fun _ => rfl)
    (fun pre W => SumI (w.heap.size + 1) w.heap.size z pre W ∧ Below w.heap.size w W)
    (fun _ _ _ => False)
    (OwnFrom.and (Own.from (sumI_own _ _ _) _) (ownFrom_below (Nat.le_refl _) (by omega)))
    (fun _ _ _ _ _ hs _ _ => hs)
    ⟨hI0, hB0⟩
    (fun i => { tmps := #[.pointer (some ⟨hb, 0, none⟩), .pointer (some ⟨w.heap.size, 0, none⟩), .pointer (some ⟨w.heap.size + 1, 0, none⟩), .int .i64 (i.val : Int), .int .i64 (z i.val), .agg #[.int .i32 x0, .int .i32 x1, .int .i32 x2, .int .i32 x3, .int .i32 x4, .int .i32 x5, .int .i32 x6, .int .i32 x7], .func (.func 58) #[] #[.pointer (some ⟨w.heap.size + 1 + 1, 0, none⟩)], .int .i64 (i.val : Int), .int .i64 (z i.val), undef, undef, undef, undef, undef, undef, undef, undef, undef, undef], defers := [] }) ?assign ?body ?done ?stop
  case assign =>
    intro l x W K hK
    dsimp only [pairV]
    gi_wp2
    exact hK
  case body =>
    rintro l pre x W ⟨hI, hB⟩ hlen
    have hlt : (x.val : Int) < 8 := by have := x.isLt; omega
    have hc := hI.1.1
    have hf := hI.1.2
    have hg := HG.out x.val x.isLt
    have hpb := HPB.out pre
    have e1 : 0 ≤ (x.val : Int) * z x.val := Int.mul_nonneg (by omega) hg.1
    have e2 : (x.val : Int) * z x.val ≤ 8 * 1000 := Int.mul_le_mul (by omega) hg.2 hg.1 (by omega)
    have HI := Lib.hid (sumI_step hI x (by omega))
    have hlen2 : (pre.length : Int) < 8 := by omega
    clear hI
    obtain ⟨m, hm⟩ : ∃ m, m = (x.val : Int) * z x.val := ⟨_, rfl⟩
    have u1 : IntKind.i64.wrap ((x.val : Int) * z x.val) = m := by rw [← hm]; exact (IntWalk.i64_in _ (by omega)).trans (by omega)
    have u2 : wrap64 ((x.val : Int) * z x.val) = m := by rw [← hm]; exact (IntWalk.wrap64_in _ (by omega)).trans (by omega)
    rw [← hm] at e1 e2 HI
    clear hm
    gi_wp2
    exact ⟨(KeepsOthers.setCell _ _ _).from _, trivial, HI.out, hB.setCell (p := ⟨w.heap.size + 1, 0, none⟩) (by show w.heap.size ≤ w.heap.size + 1; omega) _⟩
  case done =>
    rintro D ys W hD rfl ⟨hI, hB⟩ hK
    have hlen := HPN.out
    have s0 := hI.1.1
    rw [hlen] at s0
    have r0 := hI.2.1.1
    have f0 := hI.2.1.2
    have r1 := hI.2.2.1
    have f1 := hI.2.2.2
    have hHW := HH.out.below hB HBZ.out
    have c0 : W.cell? ⟨hb, 0, none⟩ = some (.int .i32 x0) := hHW 0 (by omega)
    have c1 : W.cell? ⟨hb, 1, none⟩ = some (.int .i32 x1) := hHW 1 (by omega)
    have c2 : W.cell? ⟨hb, 2, none⟩ = some (.int .i32 x2) := hHW 2 (by omega)
    have c3 : W.cell? ⟨hb, 3, none⟩ = some (.int .i32 x3) := hHW 3 (by omega)
    have c4 : W.cell? ⟨hb, 4, none⟩ = some (.int .i32 x4) := hHW 4 (by omega)
    have c5 : W.cell? ⟨hb, 5, none⟩ = some (.int .i32 x5) := hHW 5 (by omega)
    have c6 : W.cell? ⟨hb, 6, none⟩ = some (.int .i32 x6) := hHW 6 (by omega)
    have c7 : W.cell? ⟨hb, 7, none⟩ = some (.int .i32 x7) := hHW 7 (by omega)
    have KK : Mq w W.drew (w.heap.size + 1) w.heap.size hb D _ (wsum z 8) x0 x1 x2 x3 x4 x5 x6 x7 := ⟨s0, r0, r1, f0, f1, c0, c1, c2, c3, c4, c5, c6, c7, hK, hB.drew⟩
    clear hI hHW hlen hB
    generalize wsum z 8 = ws at *
    generalize sumTo z 8 = sm at *
    gi_wp2_with fail
    refine wpIn_wide.2 ?_
    refine wp_region_noPanic ?_
    go_region_with (first
      | (go_at_call 47; refine (HWO.out _).mono ?_; rintro e w' ⟨rfl, hB⟩; have KN := Mq.below (by assumption) hB; have d0 := KN.sum; have d1 := KN.h0; have d2 := KN.h1; have d3 := KN.h2; have d4 := KN.h3; have d5 := KN.h4; have d6 := KN.h5; have d7 := KN.h6; have d8 := KN.h7; clear hB)
      | (go_at_call 48; refine (HRE.out _).mono ?_; rintro e w' ⟨rfl, hB⟩; have KM := Mq.below KN hB; have e0 := KM.r0; have e1 := KM.r1; have g0 := KM.f0; have g1 := KM.f1; clear hB))
    all_goals
      refine NoPanic.normal ?_
      gi_wp2_with fail
      obtain ⟨e0', e1'⟩ := resF (.int .i64 rn) (.int .i64 rd) e0 e1
      have k2 : ((w'.setCell ⟨w.heap.size, 0, none⟩ (.int .i64 rn)).setCell ⟨w.heap.size, 1, none⟩ (.int .i64 rd)).cell? ⟨w.heap.size, 0, none⟩ = some (.int .i64 rn) := (World.cell?_setCell_other _ _ _ _ (by simp)).trans e0'
      have HK' := Lib.hid (((KeepsOthers.setCell w' ⟨w.heap.size, 0, none⟩ (.int .i64 rn)).trans (KeepsOthers.setCell _ ⟨w.heap.size, 1, none⟩ (.int .i64 rd))).same D _ KM.ob rfl)
      have HB9 := Lib.hid ((KM.bel.setCell (p := ⟨w.heap.size, 0, none⟩) (Nat.le_refl _) (.int .i64 rn)).setCell (p := ⟨w.heap.size, 1, none⟩) (Nat.le_refl _) (.int .i64 rd))
      refine ⟨by simp, .inl ⟨_, _, rfl, run_takeDeferred HK'.out, ?_⟩⟩
      have hg9 := grownBy_putObj' ((w'.setCell ⟨w.heap.size, 0, none⟩ (.int .i64 rn)).setCell ⟨w.heap.size, 1, none⟩ (.int .i64 rd)) D (.deferred none)
      have hr9 : ∀ r, some D = some r → ∃ o : Obj, ((w'.setCell ⟨w.heap.size, 0, none⟩ (.int .i64 rn)).setCell ⟨w.heap.size, 1, none⟩ (.int .i64 rd)).heap[r]? = some o ∧ o.isCells = false := fun r e => by cases e; exact ⟨_, HK'.out, rfl⟩
      have k0 := cell_kept k2 hg9 hr9
      have k1 := cell_kept e1' hg9 hr9
      refine ⟨.agg #[.int .i64 rn, .int .i64 rd], ?_, rfl, HB9.out.trans (belowK_b (w := w) (Nat.le_refl _) _ D _ _ (by omega) HK'.out rfl rfl)⟩
      simp [results, Try.f46, go_sem, k0, k1]
  case stop =>
    rintro D c pre W _ _ h _
    exact h.elim
set_option maxRecDepth 100000 in
set_option maxHeartbeats 8000000 in
theorem implMeanC_no (hb : Nat) (w : World) (hH : HeapAt w hb 0 (z8 0 0 0 0 0 0 0 0)) :
    Calls Try.prog 46 #[.pointer (some ⟨hb, 0, none⟩)] w fun e w' => e = .panicked [{ v := .iface 86 (.agg #[]), recovered := false }] ∧ Below w.heap.size w w' := by
  have hbz := hH.lt
  have HBZ := Lib.hid hbz
  have A0 : Below w.heap.size w ((w.alloc (.cells #[.int .i64 0, .int .i64 0] 38)).alloc (.cells #[.int .i64 0] 2)) := by go_grown
  have hH1 := hH.below A0 hbz
  have b0 : ((w.alloc (.cells #[.int .i64 0, .int .i64 0] 38)).alloc (.cells #[.int .i64 0] 2)).cell? ⟨hb, 0, none⟩ = some (.int .i32 0) := hH1 0 (by omega)
  have b1 : ((w.alloc (.cells #[.int .i64 0, .int .i64 0] 38)).alloc (.cells #[.int .i64 0] 2)).cell? ⟨hb, 1, none⟩ = some (.int .i32 0) := hH1 1 (by omega)
  have b2 : ((w.alloc (.cells #[.int .i64 0, .int .i64 0] 38)).alloc (.cells #[.int .i64 0] 2)).cell? ⟨hb, 2, none⟩ = some (.int .i32 0) := hH1 2 (by omega)
  have b3 : ((w.alloc (.cells #[.int .i64 0, .int .i64 0] 38)).alloc (.cells #[.int .i64 0] 2)).cell? ⟨hb, 3, none⟩ = some (.int .i32 0) := hH1 3 (by omega)
  have b4 : ((w.alloc (.cells #[.int .i64 0, .int .i64 0] 38)).alloc (.cells #[.int .i64 0] 2)).cell? ⟨hb, 4, none⟩ = some (.int .i32 0) := hH1 4 (by omega)
  have b5 : ((w.alloc (.cells #[.int .i64 0, .int .i64 0] 38)).alloc (.cells #[.int .i64 0] 2)).cell? ⟨hb, 5, none⟩ = some (.int .i32 0) := hH1 5 (by omega)
  have b6 : ((w.alloc (.cells #[.int .i64 0, .int .i64 0] 38)).alloc (.cells #[.int .i64 0] 2)).cell? ⟨hb, 6, none⟩ = some (.int .i32 0) := hH1 6 (by omega)
  have b7 : ((w.alloc (.cells #[.int .i64 0, .int .i64 0] 38)).alloc (.cells #[.int .i64 0] 2)).cell? ⟨hb, 7, none⟩ = some (.int .i32 0) := hH1 7 (by omega)
  have HH := Lib.hid hH
  clear hH hH1
  have hok : okH (z8 0 0 0 0 0 0 0 0) = true := by decide
  have HG := Lib.hid (okH_of hok)
  have HPB := Lib.hid (psum_bd hok)
  have HWO := Lib.hid fun wx => woolOf_no wx
  have HPN := Lib.hid (psum_nz (z8 0 0 0 0 0 0 0 0) 8 (Nat.le_refl _))
  refine (callsIn_wide (n := 9)).1 ?_
  refine callsIn_of_wp_marks Try.func46 rfl trivial ?_ rfl
  simp only [Try.ntmps46, List.size_toArray, List.length_cons, List.length_nil, Nat.reduceAdd, Nat.reduceSub, Array.replicate_succ, Array.replicate_zero, List.push_toArray, List.append_toArray, List.nil_append, List.cons_append]
  gi_wp2_with (first | (refine ⟨trivial, ?_⟩; gi_at_call 38; refine (lengths_in Fence.wide _ trivial rfl 0 0 0 0 0 0 0 0 _).mono ?_; rintro e w' ⟨rfl, rfl⟩))
  obtain ⟨W0, hW0⟩ : ∃ W0, ((w.alloc (.cells #[.int .i64 0, .int .i64 0] 38)).alloc (.cells #[.int .i64 0] 2)).alloc (.cells #[.int .i32 0, .int .i32 0, .int .i32 0, .int .i32 0, .int .i32 0, .int .i32 0, .int .i32 0, .int .i32 0] 23) = W0 := ⟨_, rfl⟩
  have hs0 : W0.heap.size = w.heap.size + 3 := by rw [← hW0]; simp
  have hB0 : Below w.heap.size w W0 := by rw [← hW0]; go_grown
  have hI0 : SumI (w.heap.size + 1) w.heap.size (z8 0 0 0 0 0 0 0 0) [] W0 := by
    rw [← hW0]
    refine ⟨⟨?_, ?_⟩, ⟨?_, ?_⟩, ⟨?_, ?_⟩⟩ <;> simp [go_sem, psum]
  have hH0 : HeapAt W0 (w.heap.size + 1 + 1) 0 (z8 0 0 0 0 0 0 0 0) := by
    rw [← hW0]
    have := heapAt_alloc ((w.alloc (.cells #[.int .i64 0, .int .i64 0] 38)).alloc (.cells #[.int .i64 0] 2)) 0 0 0 0 0 0 0 0 23
    simpa only [World.size_alloc] using this
  have hzb : bd32 (z8 0 0 0 0 0 0 0 0) := by
    have bx := ok8_of hok
    exact bd32_z8 (by unfold in32; omega) (by unfold in32; omega) (by unfold in32; omega) (by unfold in32; omega) (by unfold in32; omega) (by unfold in32; omega) (by unfold in32; omega) (by unfold in32; omega)
  rw [hW0]
  have hseq := lengths_stops Fence.wide (9 - 1) trivial rfl (by omega) (w.heap.size + 1 + 1) 0 0 0 0 0 0 0 0 hzb (fun _ _ => True) W0 (by omega) hH0
  clear hW0 hH0 hok
  obtain ⟨z, hzz⟩ : ∃ z, z8 0 0 0 0 0 0 0 0 = z := ⟨_, rfl⟩
  rw [hzz] at HG hI0 hseq HPB HPN
  clear hzz hzb
  refine wpIn_rangeFunc_ownG rfl (by omega) (gf := 58) (lb := #[.pointer (some ⟨w.heap.size + 1 + 1, 0, none⟩)]) rfl trivial (enters_of Try.func58 (by kernel_rfl) rfl)
    hseq (fun _ _ => trivial) (fun _ _ _ _ _ _ _ _ => trivial) (Below.refl _ _) (fun _ => rfl)
    (fun pre W => SumI (w.heap.size + 1) w.heap.size z pre W ∧ Below w.heap.size w W)
    (fun _ _ _ => False)
    (OwnFrom.and (Own.from (sumI_own _ _ _) _) (ownFrom_below (Nat.le_refl _) (by omega)))
    (fun _ _ _ _ _ hs _ _ => hs)
    ⟨hI0, hB0⟩
    (fun i => { tmps := #[.pointer (some ⟨hb, 0, none⟩), .pointer (some ⟨w.heap.size, 0, none⟩), .pointer (some ⟨w.heap.size + 1, 0, none⟩), .int .i64 (i.val : Int), .int .i64 (z i.val), .agg #[.int .i32 0, .int .i32 0, .int .i32 0, .int .i32 0, .int .i32 0, .int .i32 0, .int .i32 0, .int .i32 0], .func (.func 58) #[] #[.pointer (some ⟨w.heap.size + 1 + 1, 0, none⟩)], .int .i64 (i.val : Int), .int .i64 (z i.val), undef, undef, undef, undef, undef, undef, undef, undef, undef, undef], defers := [] }) ?assign ?body ?done ?stop
  case assign =>
    intro l x W K hK
    dsimp only [pairV]
    gi_wp2
    exact hK
  case body =>
    rintro l pre x W ⟨hI, hB⟩ hlen
    have hlt : (x.val : Int) < 8 := by have := x.isLt; omega
    have hc := hI.1.1
    have hf := hI.1.2
    have hg := HG.out x.val x.isLt
    have hpb := HPB.out pre
    have e1 : 0 ≤ (x.val : Int) * z x.val := Int.mul_nonneg (by omega) hg.1
    have e2 : (x.val : Int) * z x.val ≤ 8 * 1000 := Int.mul_le_mul (by omega) hg.2 hg.1 (by omega)
    have HI := Lib.hid (sumI_step hI x (by omega))
    have hlen2 : (pre.length : Int) < 8 := by omega
    clear hI
    obtain ⟨m, hm⟩ : ∃ m, m = (x.val : Int) * z x.val := ⟨_, rfl⟩
    have u1 : IntKind.i64.wrap ((x.val : Int) * z x.val) = m := by rw [← hm]; exact (IntWalk.i64_in _ (by omega)).trans (by omega)
    have u2 : wrap64 ((x.val : Int) * z x.val) = m := by rw [← hm]; exact (IntWalk.wrap64_in _ (by omega)).trans (by omega)
    rw [← hm] at e1 e2 HI
    clear hm
    gi_wp2
    exact ⟨(KeepsOthers.setCell _ _ _).from _, trivial, HI.out, hB.setCell (p := ⟨w.heap.size + 1, 0, none⟩) (by show w.heap.size ≤ w.heap.size + 1; omega) _⟩
  case done =>
    rintro D ys W hD rfl ⟨hI, hB⟩ hK
    have hlen := HPN.out
    have s0 := hI.1.1
    rw [hlen] at s0
    have r0 := hI.2.1.1
    have f0 := hI.2.1.2
    have r1 := hI.2.2.1
    have f1 := hI.2.2.2
    have hHW := HH.out.below hB HBZ.out
    have c0 : W.cell? ⟨hb, 0, none⟩ = some (.int .i32 0) := hHW 0 (by omega)
    have c1 : W.cell? ⟨hb, 1, none⟩ = some (.int .i32 0) := hHW 1 (by omega)
    have c2 : W.cell? ⟨hb, 2, none⟩ = some (.int .i32 0) := hHW 2 (by omega)
    have c3 : W.cell? ⟨hb, 3, none⟩ = some (.int .i32 0) := hHW 3 (by omega)
    have c4 : W.cell? ⟨hb, 4, none⟩ = some (.int .i32 0) := hHW 4 (by omega)
    have c5 : W.cell? ⟨hb, 5, none⟩ = some (.int .i32 0) := hHW 5 (by omega)
    have c6 : W.cell? ⟨hb, 6, none⟩ = some (.int .i32 0) := hHW 6 (by omega)
    have c7 : W.cell? ⟨hb, 7, none⟩ = some (.int .i32 0) := hHW 7 (by omega)
    have KK : Mq w W.drew (w.heap.size + 1) w.heap.size hb D _ (wsum z 8) 0 0 0 0 0 0 0 0 := ⟨s0, r0, r1, f0, f1, c0, c1, c2, c3, c4, c5, c6, c7, hK, hB.drew⟩
    clear hI hHW hlen hB
    generalize wsum z 8 = ws at *
    gi_wp2_with fail
    refine wpIn_wide.2 ?_
    refine wp_mono (Q := fun e a W' => e = Exit.panic [{ v := .iface 86 (.agg #[]), recovered := false }] ∧ a.defers = [{ target := Target.collected D, args := #[] }] ∧ W'.heap[D]? = some (.deferred (some [])) ∧ Below w.heap.size w W') ?_ ?_
    · go_region_dies
      all_goals
        refine (HWO.out _).mono ?_
        rintro e w' ⟨rfl, hB⟩
        have KN := Mq.below KK hB
        exact ⟨rfl, KN.ob, KN.bel⟩
    · rintro e a W2 ⟨rfl, hd, hob, hbl⟩
      change LeavesInM _ _ _ _ _ _ a.defers _ _
      rw [hd]
      refine ⟨by simp, .inl ⟨_, _, rfl, run_takeDeferred hob, ?_⟩⟩
      exact ⟨rfl, hbl.trans (belowK_b (w := w) (Nat.le_refl _) _ D _ _ (by omega) hob rfl rfl)⟩
  case stop =>
    rintro D c pre W _ _ h _
    exact h.elim
end Go.Proofs.Ytekejhnhkifcfaa
