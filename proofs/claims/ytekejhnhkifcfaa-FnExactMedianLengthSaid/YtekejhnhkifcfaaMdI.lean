/-
  No statement is proved here: the median length of a heap in the program; conditions as stated.
-/
import Derived.Test.YtekejhnhkifcfaaLengths
import Derived.Test.YtekejhnhkifcfaaMdS
import Derived.Test.YtekejhnhkifcfaaWool
import Derived.Test.YtekejhnhkifcfaaWoI
namespace Go.Proofs.Ytekejhnhkifcfaa
open Go.RowKit Go.Shelf

attribute [local go_sem] Oper.semAt_some

/-- The sum of some lengths' grams, and the last one of them. -/
def qsum (z : Nat → Int) : List (Fin 8) → Int
  | [] => 0
  | x :: xs => z x.val + qsum z xs
theorem qsum_snoc (z : Nat → Int) (x : Fin 8) : ∀ pre : List (Fin 8), qsum z (pre ++ [x]) = qsum z pre + z x.val
  | [] => by simp [qsum]
  | y :: ys => by
    have ih := qsum_snoc z x ys
    simp only [List.cons_append, qsum, ih]
    omega
theorem qsum_nz (z : Nat → Int) : ∀ k : Nat, k ≤ 8 → qsum z (nz z k) = sumTo z k
  | 0, _ => rfl
  | k + 1, hk => by
    have ih := qsum_nz z k (by omega)
    by_cases h : z k = 0
    · rw [nz_zero h, ih, show sumTo z (k + 1) = sumTo z k + z k from rfl, h]
      simp
    · rw [nz_some h (by omega), qsum_snoc, ih]
      rfl
theorem qsum_bd {z : Nat → Int} (h : okH z = true) : ∀ pre : List (Fin 8), 0 ≤ qsum z pre ∧ qsum z pre ≤ 1000 * (pre.length : Int)
  | [] => by simp [qsum]
  | y :: ys => by
    have ih := qsum_bd h ys
    have b := okH_of h y.val y.isLt
    simp only [qsum, List.length_cons]
    push_cast
    omega
/-- The median, when the lengths have been gone through up to where there is half of all. -/
theorem med_found {z : Nat → Int} {all : Int} {k : Nat} (hok : okH z = true) (hk : k < 8) (_ : z k ≠ 0) (h1 : qsum z (nz z k) * 2 < all) (h2 : all ≤ 2 * qsum z (nz z (k + 1))) : medTo z all 8 = (k : Int) := by
  rw [qsum_nz z k (by omega)] at h1
  rw [qsum_nz z (k + 1) (by omega)] at h2
  refine medTo_at (fun j hj => ?_) h2 8 hk
  have := sumTo_mono hok (j := j + 1) (k := k) (by omega) (by omega)
  omega

/-- Between two rounds: all, the sum up to here, and the last length. -/
def MedI (B2 B3 B4 : Nat) (z : Nat → Int) (all : Int) (pre : List (Fin 8)) (W : World) : Prop :=
  (W.cell? ⟨B2, 0, none⟩ = some (.int .i64 all) ∧ W.frozen? ⟨B2, 0, none⟩ = false) ∧
  (W.cell? ⟨B3, 0, none⟩ = some (.int .i64 (qsum z pre)) ∧ W.frozen? ⟨B3, 0, none⟩ = false) ∧ ((∃ m, W.cell? ⟨B4, 0, none⟩ = some (.int .i64 m)) ∧ W.frozen? ⟨B4, 0, none⟩ = false)
theorem medI_own (B2 B3 B4 : Nat) (z : Nat → Int) (all : Int) : Own (MedI B2 B3 B4 z all) := fun _ _ _ _ hs hg hr => by
  obtain ⟨h1, h2, ⟨m, h3⟩, h4⟩ := hs
  exact ⟨⟨cell_kept h1.1 hg hr, (frozen_kept h1.1 hg hr).trans h1.2⟩, ⟨cell_kept h2.1 hg hr, (frozen_kept h2.1 hg hr).trans h2.2⟩, ⟨m, cell_kept h3 hg hr⟩, (frozen_kept h3 hg hr).trans h4⟩
theorem medI_step {B2 B3 B4 : Nat} {z : Nat → Int} {all : Int} {pre : List (Fin 8)} {W : World} (h : MedI B2 B3 B4 z all pre W) (x : Fin 8) (h23 : B2 ≠ B3) (h24 : B2 ≠ B4) (h34 : B3 ≠ B4) :
    MedI B2 B3 B4 z all (pre ++ [x]) ((W.setCell ⟨B3, 0, none⟩ (.int .i64 (qsum z pre + z x.val))).setCell ⟨B4, 0, none⟩ (.int .i64 (x.val : Int))) ∧ ((W.setCell ⟨B3, 0, none⟩ (.int .i64 (qsum z pre + z x.val))).setCell ⟨B4, 0, none⟩ (.int .i64 (x.val : Int))).cell? ⟨B4, 0, none⟩ = some (.int .i64 (x.val : Int)) := by
  obtain ⟨h1, h2, ⟨m, h3⟩, h4⟩ := h
  have n1 : B3 ≠ B2 := fun e => h23 e.symm
  have n2 : B4 ≠ B2 := fun e => h24 e.symm
  have n3 : B4 ≠ B3 := fun e => h34 e.symm
  have q3 : (W.setCell ⟨B3, 0, none⟩ (.int .i64 (qsum z pre + z x.val))).cell? ⟨B4, 0, none⟩ = some (.int .i64 m) := by
    rw [World.cell?_setCell_other (h := fun hh => h34 (by injection hh))]
    exact h3
  have e4 : ((W.setCell ⟨B3, 0, none⟩ (.int .i64 (qsum z pre + z x.val))).setCell ⟨B4, 0, none⟩ (.int .i64 (x.val : Int))).cell? ⟨B4, 0, none⟩ = some (.int .i64 (x.val : Int)) :=
    World.cell?_setCell_same _ _ _ q3
  refine ⟨⟨⟨?_, ?_⟩, ⟨?_, ?_⟩, ⟨_, e4⟩, ?_⟩, e4⟩
  · rw [World.cell?_setCell_other (h := fun hh => n2 (by injection hh)), World.cell?_setCell_other (h := fun hh => n1 (by injection hh))]
    exact h1.1
  · rw [World.frozen?_setCell, World.frozen?_setCell]; exact h1.2
  · rw [World.cell?_setCell_other (h := fun hh => n3 (by injection hh)), World.cell?_setCell_same _ _ _ h2.1, qsum_snoc]
  · rw [World.frozen?_setCell, World.frozen?_setCell]; exact h2.2
  · rw [World.frozen?_setCell, World.frozen?_setCell]; exact h4
/-- Less than half has been gone through, whatever has come but the last one. -/
def Less (z : Nat → Int) (all : Int) (pre : List (Fin 8)) : Prop := pre = [] ∨ qsum z pre * 2 < all

set_option maxRecDepth 100000 in
set_option maxHeartbeats 8000000 in
theorem implMedC_yes (x0 x1 x2 x3 x4 x5 x6 x7 : Int) (hok : okH (z8 x0 x1 x2 x3 x4 x5 x6 x7) = true) (hn : ¬ sumTo (z8 x0 x1 x2 x3 x4 x5 x6 x7) 8 = 0) (hb : Nat) (w : World) (hH : HeapAt w hb 0 (z8 x0 x1 x2 x3 x4 x5 x6 x7)) :
    Calls Try.prog 50 #[.pointer (some ⟨hb, 0, none⟩)] w fun e w' => e = .returned (.int .i64 (medTo (z8 x0 x1 x2 x3 x4 x5 x6 x7) (sumTo (z8 x0 x1 x2 x3 x4 x5 x6 x7) 8) 8)) ∧ Below w.heap.size w w' := by
  have hbz := hH.lt
  have HBZ := Lib.hid hbz
  have HH := Lib.hid hH
  have c0 := hH 0 (by omega)
  have c1 := hH 1 (by omega)
  have c2 := hH 2 (by omega)
  have c3 := hH 3 (by omega)
  have c4 := hH 4 (by omega)
  have c5 := hH 5 (by omega)
  have c6 := hH 6 (by omega)
  have c7 := hH 7 (by omega)
  simp only [Nat.zero_add, z8] at c0 c1 c2 c3 c4 c5 c6 c7
  have hzb : bd32 (z8 x0 x1 x2 x3 x4 x5 x6 x7) := by
    have bx := ok8_of hok
    exact bd32_z8 (by unfold in32; omega) (by unfold in32; omega) (by unfold in32; omega) (by unfold in32; omega) (by unfold in32; omega) (by unfold in32; omega) (by unfold in32; omega) (by unfold in32; omega)
  have HG := Lib.hid (okH_of hok)
  have HPB := Lib.hid (qsum_bd hok)
  have HWO := Lib.hid fun wx => woolOf_yes x0 x1 x2 x3 x4 x5 x6 x7 hok hn wx
  have HPN := Lib.hid (qsum_nz (z8 x0 x1 x2 x3 x4 x5 x6 x7) 8 (Nat.le_refl _))
  have hsb := sumTo_ok hok (Nat.le_refl 8)
  have HMF := Lib.hid fun k (hk : k < 8) hz h1 h2 => med_found (z := z8 x0 x1 x2 x3 x4 x5 x6 x7) (all := sumTo (z8 x0 x1 x2 x3 x4 x5 x6 x7) 8) (k := k) hok hk hz h1 h2
  have hap : 0 < sumTo (z8 x0 x1 x2 x3 x4 x5 x6 x7) 8 := by omega
  have hab : sumTo (z8 x0 x1 x2 x3 x4 x5 x6 x7) 8 ≤ 8000 := by omega
  have HAP := Lib.hid hap
  generalize medTo (z8 x0 x1 x2 x3 x4 x5 x6 x7) (sumTo (z8 x0 x1 x2 x3 x4 x5 x6 x7) 8) 8 = R at *
  obtain ⟨all, hall⟩ : ∃ all, all = sumTo (z8 x0 x1 x2 x3 x4 x5 x6 x7) 8 := ⟨_, rfl⟩
  rw [← hall] at HWO HMF hap hab HAP
  have HALL := Lib.hid hall
  clear hH hok hn hsb hall
  refine (callsIn_wide (n := 9)).1 ?_
  refine callsIn_of_wp_marks Try.func50 rfl trivial ?_ rfl
  simp only [Try.ntmps50, List.size_toArray, List.length_cons, List.length_nil, Nat.reduceAdd, Nat.reduceSub, Array.replicate_succ, Array.replicate_zero, List.push_toArray, List.append_toArray, List.nil_append, List.cons_append]
  gi_wp2_with (first | (refine ⟨trivial, ?_⟩; gi_at_call 47; refine (callsIn_wide.2 (HWO.out _)).mono ?_; rintro e w1 ⟨rfl, hB1⟩; have BW : Below w1.heap.size w1 (((w1.alloc (.cells #[.int .i64 all] 2)).alloc (.cells #[.int .i64 0] 2)).alloc (.cells #[.int .i64 0] 2)) := (by go_grown); have hH1 := HH.out.below hB1 HBZ.out; have hb1 : hb < w1.heap.size := Nat.lt_of_lt_of_le HBZ.out hB1.size; have b0 : (((w1.alloc (.cells #[.int .i64 all] 2)).alloc (.cells #[.int .i64 0] 2)).alloc (.cells #[.int .i64 0] 2)).cell? ⟨hb, 0, none⟩ = some (.int .i32 x0) := kept BW hb1 (by have := hH1 0 (by omega); simpa only [Nat.zero_add, z8] using this); have b1 : (((w1.alloc (.cells #[.int .i64 all] 2)).alloc (.cells #[.int .i64 0] 2)).alloc (.cells #[.int .i64 0] 2)).cell? ⟨hb, 1, none⟩ = some (.int .i32 x1) := kept BW hb1 (by have := hH1 1 (by omega); simpa only [Nat.zero_add, z8] using this); have b2 : (((w1.alloc (.cells #[.int .i64 all] 2)).alloc (.cells #[.int .i64 0] 2)).alloc (.cells #[.int .i64 0] 2)).cell? ⟨hb, 2, none⟩ = some (.int .i32 x2) := kept BW hb1 (by have := hH1 2 (by omega); simpa only [Nat.zero_add, z8] using this); have b3 : (((w1.alloc (.cells #[.int .i64 all] 2)).alloc (.cells #[.int .i64 0] 2)).alloc (.cells #[.int .i64 0] 2)).cell? ⟨hb, 3, none⟩ = some (.int .i32 x3) := kept BW hb1 (by have := hH1 3 (by omega); simpa only [Nat.zero_add, z8] using this); have b4 : (((w1.alloc (.cells #[.int .i64 all] 2)).alloc (.cells #[.int .i64 0] 2)).alloc (.cells #[.int .i64 0] 2)).cell? ⟨hb, 4, none⟩ = some (.int .i32 x4) := kept BW hb1 (by have := hH1 4 (by omega); simpa only [Nat.zero_add, z8] using this); have b5 : (((w1.alloc (.cells #[.int .i64 all] 2)).alloc (.cells #[.int .i64 0] 2)).alloc (.cells #[.int .i64 0] 2)).cell? ⟨hb, 5, none⟩ = some (.int .i32 x5) := kept BW hb1 (by have := hH1 5 (by omega); simpa only [Nat.zero_add, z8] using this); have b6 : (((w1.alloc (.cells #[.int .i64 all] 2)).alloc (.cells #[.int .i64 0] 2)).alloc (.cells #[.int .i64 0] 2)).cell? ⟨hb, 6, none⟩ = some (.int .i32 x6) := kept BW hb1 (by have := hH1 6 (by omega); simpa only [Nat.zero_add, z8] using this); have b7 : (((w1.alloc (.cells #[.int .i64 all] 2)).alloc (.cells #[.int .i64 0] 2)).alloc (.cells #[.int .i64 0] 2)).cell? ⟨hb, 7, none⟩ = some (.int .i32 x7) := kept BW hb1 (by have := hH1 7 (by omega); simpa only [Nat.zero_add, z8] using this); clear c0 c1 c2 c3 c4 c5 c6 c7) | (refine ⟨trivial, ?_⟩; gi_at_call 38; refine (lengths_in Fence.wide _ trivial rfl x0 x1 x2 x3 x4 x5 x6 x7 _).mono ?_; rintro e w' ⟨rfl, rfl⟩))
  clear b0 b1 b2 b3 b4 b5 b6 b7
  obtain ⟨W0, hW0⟩ : ∃ W0, (((w1.alloc (.cells #[.int .i64 all] 2)).alloc (.cells #[.int .i64 0] 2)).alloc (.cells #[.int .i64 0] 2)).alloc (.cells #[.int .i32 x0, .int .i32 x1, .int .i32 x2, .int .i32 x3, .int .i32 x4, .int .i32 x5, .int .i32 x6, .int .i32 x7] 23) = W0 := ⟨_, rfl⟩
  have hs0 : W0.heap.size = w1.heap.size + 4 := by rw [← hW0]; simp
  have hB01 : Below w1.heap.size w1 W0 := by rw [← hW0]; go_grown
  have hB0 : Below w.heap.size w W0 := hB1.trans (hB01.mono hB1.size)
  have hI0 : MedI w1.heap.size (w1.heap.size + 1) (w1.heap.size + 1 + 1) (z8 x0 x1 x2 x3 x4 x5 x6 x7) all [] W0 := by
    rw [← hW0]
    refine ⟨⟨?_, ?_⟩, ⟨?_, ?_⟩, ⟨0, ?_⟩, ?_⟩ <;> simp [go_sem, qsum]
  have hH0 : HeapAt W0 (w1.heap.size + 1 + 1 + 1) 0 (z8 x0 x1 x2 x3 x4 x5 x6 x7) := by
    rw [← hW0]
    have := heapAt_alloc (((w1.alloc (.cells #[.int .i64 all] 2)).alloc (.cells #[.int .i64 0] 2)).alloc (.cells #[.int .i64 0] 2)) x0 x1 x2 x3 x4 x5 x6 x7 23
    simpa only [World.size_alloc] using this
  have hws := hB1.size
  rw [hW0]
  have hseq := lengths_stops Fence.wide (9 - 1) trivial rfl (by omega) (w1.heap.size + 1 + 1 + 1) x0 x1 x2 x3 x4 x5 x6 x7 hzb (fun _ _ => True) W0 (by omega) hH0
  clear hW0 hH0 hH1 BW
  obtain ⟨z, hzz⟩ : ∃ z, z8 x0 x1 x2 x3 x4 x5 x6 x7 = z := ⟨_, rfl⟩
  rw [hzz] at HG hI0 hseq HPB HPN HMF HALL
  clear hzz hzb
  refine wpIn_rangeFunc_ownG rfl (by omega) (gf := 58) (lb := #[.pointer (some ⟨w1.heap.size + 1 + 1 + 1, 0, none⟩)]) rfl trivial (enters_of Try.func58 (by kernel_rfl) rfl)
    hseq (fun _ _ => trivial) (fun _ _ _ _ _ _ _ _ => trivial) (Below.refl _ _) (fun _ => rfl)
    (fun pre W => (MedI w1.heap.size (w1.heap.size + 1) (w1.heap.size + 1 + 1) z all pre W ∧ Below w.heap.size w W) ∧ Less z all pre)
    (fun c pre W => (MedI w1.heap.size (w1.heap.size + 1) (w1.heap.size + 1 + 1) z all pre W ∧ Below w.heap.size w W) ∧ c = Code.exit 0 ∧ ∃ pre' x, pre = pre' ++ [x] ∧ Less z all pre' ∧ all ≤ 2 * qsum z pre ∧ W.cell? ⟨w1.heap.size + 1 + 1, 0, none⟩ = some (.int .i64 ((x : Fin 8).val : Int)))
    (fun s W W' row hs hg hr => ⟨⟨medI_own _ _ _ _ _ _ _ _ _ hs.1.1 hg (fun r e => (hr r e).2), ownFrom_below (n₀ := w.heap.size) (w₀ := w) (Nat.le_refl _) (by omega) s W W' row hs.1.2 hg hr⟩, hs.2⟩)
    (fun c s W W' row hs hg hr => ⟨⟨medI_own _ _ _ _ _ _ _ _ _ hs.1.1 hg (fun r e => (hr r e).2), ownFrom_below (n₀ := w.heap.size) (w₀ := w) (Nat.le_refl _) (by omega) s W W' row hs.1.2 hg hr⟩, hs.2.1, by obtain ⟨p', x, e1, e2, e3, e4⟩ := hs.2.2; exact ⟨p', x, e1, e2, e3, cell_kept e4 hg (fun r e => (hr r e).2)⟩⟩)
    ⟨⟨hI0, hB0⟩, .inl rfl⟩
    (fun i => { tmps := #[.pointer (some ⟨hb, 0, none⟩), .int .i64 0, .pointer (some ⟨w1.heap.size, 0, none⟩), .pointer (some ⟨w1.heap.size + 1, 0, none⟩), .pointer (some ⟨w1.heap.size + 1 + 1, 0, none⟩), .int .i64 (i.val : Int), .int .i64 (z i.val), .agg #[.int .i32 x0, .int .i32 x1, .int .i32 x2, .int .i32 x3, .int .i32 x4, .int .i32 x5, .int .i32 x6, .int .i32 x7], .int .i64 all, .agg #[.int .i32 x0, .int .i32 x1, .int .i32 x2, .int .i32 x3, .int .i32 x4, .int .i32 x5, .int .i32 x6, .int .i32 x7], .func (.func 58) #[] #[.pointer (some ⟨w1.heap.size + 1 + 1 + 1, 0, none⟩)], .int .i64 (i.val : Int), .int .i64 (z i.val), undef, undef, undef, undef, undef, undef, undef, undef, undef], defers := [] }) ?assign ?body ?done ?stop
  case assign =>
    intro l x W K hK
    dsimp only [pairV]
    gi_wp2
    exact hK
  case body =>
    rintro l pre x W ⟨⟨hI, hB⟩, hL⟩ hlen
    have hlt : (x.val : Int) < 8 := by have := x.isLt; omega
    obtain ⟨⟨a2, b2⟩, ⟨a3, b3⟩, ⟨m, a4⟩, b4⟩ := id hI
    have hg := HG.out x.val x.isLt
    have hpb := HPB.out pre
    have hlen2 : (pre.length : Int) < 8 := by omega
    obtain ⟨HS1, HS2⟩ := medI_step hI x (by omega) (by omega) (by omega)
    have hsn := qsum_snoc z x pre
    have HI := Lib.hid HS1
    have HX := Lib.hid HS2
    have HSN := Lib.hid hsn
    have HL := Lib.hid hL
    obtain ⟨⟨d2, _⟩, ⟨d3, _⟩, _, _⟩ := HS1
    rw [hsn] at d3
    have HB2 := Lib.hid ((hB.setCell (p := ⟨w1.heap.size + 1, 0, none⟩) (show w.heap.size ≤ w1.heap.size + 1 by omega) (.int .i64 (qsum z pre + z x.val))).setCell (p := ⟨w1.heap.size + 1 + 1, 0, none⟩) (show w.heap.size ≤ w1.heap.size + 1 + 1 by omega) (.int .i64 (x.val : Int)))
    clear hI HS2 hsn hL
    obtain ⟨u, hu⟩ : ∃ u, u = qsum z pre := ⟨_, rfl⟩
    rw [← hu] at d3 HI HX HB2 HSN d2
    rw [← hu] at a3 hpb
    have HU := Lib.hid hu
    clear hu
    by_cases hge : all ≤ 2 * (u + z x.val)
    · have hd : decide (all ≤ 2 * (u + z x.val)) = true := decide_eq_true hge
      gi_wp2
      exact ⟨((KeepsOthers.setCell _ _ _).trans (KeepsOthers.setCell _ _ _)).from _, ⟨HI.out, HB2.out⟩, rfl, pre, x, rfl, HL.out, by rw [HSN.out]; exact hge, HX.out⟩
    · have hd : decide (all ≤ 2 * (u + z x.val)) = false := decide_eq_false hge
      gi_wp2
      exact ⟨((KeepsOthers.setCell _ _ _).trans (KeepsOthers.setCell _ _ _)).from _, trivial, ⟨HI.out, HB2.out⟩, .inr (by rw [HSN.out]; omega)⟩
  case done =>
    rintro D ys W hD rfl ⟨⟨hI, hB⟩, hL⟩ hK
    exfalso
    have h1 := HPN.out
    have h2 := HAP.out
    rcases hL with e | e
    · rw [e] at h1
      simp only [qsum] at h1
      have := HALL.out
      omega
    · have := HALL.out
      omega
  case stop =>
    rintro D c pre W hD ⟨k, hk, hzk, rfl⟩ ⟨⟨hI, hB⟩, rfl, pre', x, hpre, hL, hge, hx⟩ hK
    rw [nz_some hzk hk] at hpre
    obtain ⟨rfl, hxe⟩ := List.append_inj' hpre rfl
    simp only [List.cons.injEq, and_true] at hxe
    subst hxe
    have hR := HMF.out k hk hzk (by
      rcases hL with e | e
      · rw [e]
        have := HAP.out
        simp only [qsum]
        omega
      · exact e) hge
    subst hR
    simp only at hx
    have HK' := Lib.hid hK
    have HB9 := Lib.hid hB
    clear hI hL hge hK hB
    gi_wp2
    refine ⟨by simp, .inl ⟨_, _, rfl, run_takeDeferred HK'.out, ?_⟩⟩
    refine ⟨.int .i64 (k : Int), ?_, rfl, HB9.out.trans (belowK_b (w := w) (Nat.le_refl _) _ D _ _ (by omega) HK'.out rfl rfl)⟩
    simp [results, Try.f50, go_sem]
end Go.Proofs.Ytekejhnhkifcfaa
