/-
  No statement is proved here: the shares of several heaps over one denominator in the program; conditions as stated.
-/
import Derived.Test.YtekejhnhkifcfaaLc
import Derived.Test.YtekejhnhkifcfaaLengths
import Derived.Test.YtekejhnhkifcfaaWool
import Derived.BigRegionIn
import Derived.Test.YtekejhnhkifcfaaRoundTail
import Derived.Deep.LoopGhost
import Derived.Deep.DeepCutAuto
import Derived.Deep.RegionHeld3
import Derived.OwnWalk
import Derived.Laws.OwnMore
namespace Go.Proofs.Ytekejhnhkifcfaa
open Go.RowKit Go.Shelf

attribute [local go_sem] Oper.semAt_some

theorem z8_self (z : Nat → Int) : ∀ k, k < 8 → z8 (z 0) (z 1) (z 2) (z 3) (z 4) (z 5) (z 6) (z 7) k = z k
  | 0, _ => rfl
  | 1, _ => rfl
  | 2, _ => rfl
  | 3, _ => rfl
  | 4, _ => rfl
  | 5, _ => rfl
  | 6, _ => rfl
  | 7, _ => rfl
  | k + 8, h => by omega
theorem sumTo_self (z : Nat → Int) : sumTo (z8 (z 0) (z 1) (z 2) (z 3) (z 4) (z 5) (z 6) (z 7)) 8 = sumTo z 8 := by simp [sumTo, z8]
theorem okH_self {z : Nat → Int} (h : okH z = true) : okH (z8 (z 0) (z 1) (z 2) (z 3) (z 4) (z 5) (z 6) (z 7)) = true := okH_mk fun k hk => by rw [z8_self z k hk]; exact okH_of h k hk
theorem woolOf_at (z : Nat → Int) (h : okH z = true) (hn : ¬ sumTo z 8 = 0) (w : World) :
    Calls Try.prog 47 #[.agg #[.int .i32 (z 0), .int .i32 (z 1), .int .i32 (z 2), .int .i32 (z 3), .int .i32 (z 4), .int .i32 (z 5), .int .i32 (z 6), .int .i32 (z 7)]] w fun e w' => e = .returned (.int .i64 (sumTo z 8)) ∧ Below w.heap.size w w' := by
  have := woolOf_yes (z 0) (z 1) (z 2) (z 3) (z 4) (z 5) (z 6) (z 7) (okH_self h) (by rw [sumTo_self]; exact hn) w
  rwa [sumTo_self] at this
theorem zero_of {z : Nat → Int} (h : okH z = true) (hn : sumTo z 8 = 0) : z 0 = 0 ∧ z 1 = 0 ∧ z 2 = 0 ∧ z 3 = 0 ∧ z 4 = 0 ∧ z 5 = 0 ∧ z 6 = 0 ∧ z 7 = 0 := by
  have := (sum0_iff (okH_self h)).2 (by rw [sumTo_self]; exact hn)
  exact this

set_option maxHeartbeats 400000 in
theorem lcm_any (a b : Int) (w : World) (ha : 0 < a) (ha' : a ≤ 1000000000000000) (hb : 0 < b) (hb' : b ≤ 8000) :
    Calls Try.prog 67 #[.int .i64 a, .int .i64 b] w fun e w' => e = .returned (.int .i64 (a / (Int.gcd a b : Int) * b)) ∧ ∃ n, w' = w.drewN n := by
  have hg : (0 : Int) < (Int.gcd a b : Int) := by
    have := Int.gcd_pos_of_ne_zero_left b (show a ≠ 0 by omega)
    omega
  have HG := Lib.hid fun wx => gcd_any a b wx (by omega) (by omega) (by omega) (by omega)
  have h1 : 0 ≤ a / (Int.gcd a b : Int) ∧ a / (Int.gcd a b : Int) ≤ a := ⟨Int.ediv_nonneg (by omega) (by omega), Int.ediv_le_self _ (by omega)⟩
  generalize (Int.gcd a b : Int) = g at *
  obtain ⟨q, hq⟩ : ∃ q, q = a / g := ⟨_, rfl⟩
  have h2 : 0 ≤ q * b ∧ q * b ≤ 8000000000000000000 := by
    rw [hq]
    refine ⟨Int.mul_nonneg h1.1 (by omega), ?_⟩
    have := Int.mul_le_mul h1.2 hb' (by omega) (by omega)
    omega
  rw [hq] at h2
  clear hq
  have hg0 : ¬ g = 0 := by omega
  go_enter Try.func67, Try.ntmps67
  go_wp2_with fail
  refine (HG.out _).mono ?_
  rintro e w1 ⟨rfl, nd, rfl⟩
  go_wp2_with fail
  go_ret
  exact ⟨rfl, nd, rfl⟩

/-- What a slice of heaps holds. -/
def HeapsAt (w : World) (hb n : Nat) (H : Nat → Nat → Int) : Prop := ∀ i, i < n → HeapAt w hb (i * 8) (H i)
theorem HeapsAt.below {w w' : World} {hb n B : Nat} {H : Nat → Nat → Int} (h : HeapsAt w hb n H) (hB : Below B w w') (hl : hb < B) : HeapsAt w' hb n H := fun i hi => (h i hi).below hB hl
def sumH (H : Nat → Nat → Int) (i : Nat) : Int := sumTo (H i) 8

set_option maxRecDepth 100000 in
set_option maxHeartbeats 4000000 in
theorem cs_no (H : Nat → Nat → Int) (n c j hb : Nat) (w : World) (hj : j < n) (hn : n ≤ 1000) (hH : HeapsAt w hb n H) (hlt : hb < w.heap.size) (hok : ∀ i, i < n → okH (H i) = true) (hs : LcOk (sumH H) j) (h0 : sumH H j = 0) :
    Calls Try.prog 53 #[.slice (some ⟨hb, 0, none⟩) n c] w fun e w' => e = .panicked [{ v := .iface 86 (.agg #[]), recovered := false }] ∧ Below w.heap.size w w' := by
  have HH := Lib.hid hH
  have HOK := Lib.hid hok
  have HS := Lib.hid hs
  have HZ := Lib.hid h0
  have HLT := Lib.hid hlt
  clear hH hok hs h0 hlt
  go_enter Try.func53, Try.ntmps53
  go_wp2
  go_loopw [4, 15] (fun o i wr => ∃ k : Nat, k ≤ j ∧ i = .int .i64 k ∧ o = .int .i64 (lcTo (sumH H) k) ∧ Hid (Below w.heap.size w wr)) (fun _ i _ => n - (intOf i).toNat)
  case atStart => exact ⟨0, by omega, rfl, rfl, Lib.hid (Below.refl _ _)⟩
  case round =>
    obtain ⟨k, hk, rfl, rfl, hB⟩ := hrel
    have hkn : k < n := by omega
    have hA := (HH.out.below hB.out HLT.out) k hkn
    have hok := HOK.out k hkn
    have c0 : wr.cell? ⟨hb, k * 8, none⟩ = some (.int .i32 (H k 0)) := hA 0 (by omega)
    have c1 : wr.cell? ⟨hb, k * 8 + 1, none⟩ = some (.int .i32 (H k 1)) := hA 1 (by omega)
    have c2 : wr.cell? ⟨hb, k * 8 + 2, none⟩ = some (.int .i32 (H k 2)) := hA 2 (by omega)
    have c3 : wr.cell? ⟨hb, k * 8 + 3, none⟩ = some (.int .i32 (H k 3)) := hA 3 (by omega)
    have c4 : wr.cell? ⟨hb, k * 8 + 4, none⟩ = some (.int .i32 (H k 4)) := hA 4 (by omega)
    have c5 : wr.cell? ⟨hb, k * 8 + 5, none⟩ = some (.int .i32 (H k 5)) := hA 5 (by omega)
    have c6 : wr.cell? ⟨hb, k * 8 + 6, none⟩ = some (.int .i32 (H k 6)) := hA 6 (by omega)
    have c7 : wr.cell? ⟨hb, k * 8 + 7, none⟩ = some (.int .i32 (H k 7)) := hA 7 (by omega)
    by_cases hlt : k < j
    · have HW := Lib.hid fun wx => woolOf_at (H k) hok (by have := (HS.out.1 k hlt).1; unfold sumH at this; omega) wx
      have b1 := HS.out.1 k hlt
      have b2 := HS.out.2 k (by omega)
      have b3 := HS.out.2 (k + 1) (by omega)
      have HL := Lib.hid fun wx => lcm_any (lcTo (sumH H) k) (sumH H k) wx b2.1 b2.2 b1.1 b1.2
      rw [← lcTo_succ] at HL
      rw [show sumTo (H k) 8 = sumH H k from rfl] at HW
      clear hA hok
      generalize sumH H k = sk at *
      go_wp2_with fail
      refine (HW.out _).mono ?_
      rintro e w1 ⟨rfl, hB1⟩
      have T1 := Lib.hid (hB.out.trans ((((Below.refl wr.heap.size wr).alloc (Nat.le_refl _) (.cells #[.int .i32 (H k 0), .int .i32 (H k 1), .int .i32 (H k 2), .int .i32 (H k 3), .int .i32 (H k 4), .int .i32 (H k 5), .int .i32 (H k 6), .int .i32 (H k 7)] 23)).trans (hB1.mono (by simp))).mono hB.out.size))
      clear hB1 c0 c1 c2 c3 c4 c5 c6 c7
      go_wp2_with fail
      refine (HL.out _).mono ?_
      rintro e w2 ⟨rfl, nd, rfl⟩
      go_wp2_with fail
      go_roundw
      case rel => exact ⟨k + 1, by omega, by go_num, rfl, Lib.hid (below_drewN T1.out _)⟩
      case measure => simp [intOf]; omega
    · obtain rfl : k = j := by omega
      obtain ⟨z0, z1, z2, z3, z4, z5, z6, z7⟩ := zero_of hok HZ.out
      rw [z0] at c0
      rw [z1] at c1
      rw [z2] at c2
      rw [z3] at c3
      rw [z4] at c4
      rw [z5] at c5
      rw [z6] at c6
      rw [z7] at c7
      have HW := Lib.hid fun wx => woolOf_no wx
      clear hA hok z0 z1 z2 z3 z4 z5 z6 z7
      go_wp2_with fail
      refine (HW.out _).mono ?_
      rintro e w1 ⟨rfl, hB1⟩
      exact ⟨rfl, rfl, hB.out.trans ((((Below.refl wr.heap.size wr).alloc (Nat.le_refl _) _).trans (hB1.mono (by simp))).mono hB.out.size)⟩

/-- The numerators that commonShares answers. -/
def numR (H : Nat → Nat → Int) (n i k : Nat) : Int := H i k * (lcTo (sumH H) n / sumH H i)
/-- Rows of eight numbers, from a block's beginning on. -/
def RowsAt (w : World) (rb n : Nat) (R : Nat → Nat → Int) : Prop := ∀ i k : Nat, i < n → k < 8 → w.cell? ⟨rb, i * 8 + k, none⟩ = some (.int .i64 (R i k)) ∧ w.frozen? ⟨rb, i * 8 + k, none⟩ = false
set_option maxRecDepth 100000 in
theorem infoNum : (Try.prog.info? 78).map (fun i => (i.zero, i.size, i.bytes)) = some (some (.agg #[.int .i64 0, .int .i64 0, .int .i64 0, .int .i64 0, .int .i64 0, .int .i64 0, .int .i64 0, .int .i64 0]), 8, 64) := by kernel_rfl
theorem zeros8_made (n j : Nat) (hj : j < n * 8) : (madeCells #[Value.int .i64 0, .int .i64 0, .int .i64 0, .int .i64 0, .int .i64 0, .int .i64 0, .int .i64 0, .int .i64 0] (n * 8)).toList[j]? = some (.int .i64 0) := by
  have h8 : j % 8 < 8 := Nat.mod_lt _ (by omega)
  generalize hm : j % 8 = m at h8
  simp only [madeCells, Array.toList_map, Array.toList_range, List.getElem?_map, List.getElem?_range hj, Option.map_some, List.size_toArray, List.length_cons, List.length_nil, Nat.zero_add, Nat.reduceAdd, hm]
  rcases m with _ | _ | _ | _ | _ | _ | _ | _ | m
  all_goals first | rfl | omega
theorem make_rows (n : Nat) (h : n ≤ 1000) : ∃ R : Array Value, (∀ wx : World, (Instr.makeSlice 74 (.int .i64 (n : Int)) (.int .i64 (n : Int))).run Try.prog wx = .ok (.slice (some ⟨wx.heap.size, 0, none⟩) n n) (wx.alloc (.cells R 78))) ∧
    ∀ wx : World, RowsAt (wx.alloc (.cells R 78)) wx.heap.size n (fun _ _ => 0) := by
  obtain ⟨i0, hi, hz0, hz1, hz2⟩ := info_parts infoNum
  have hrun := fun wx : World => by
    have := run_makeSlice (P := Try.prog) wx 74 78 i0 _ Try.underlying74 hi hz0 .i64 .i64 (n : Int) (n : Int) (by omega) (Int.le_refl _) (by rw [hz1]; simp; omega) (by rw [hz2]; omega) (by omega)
    simpa only [Int.toNat_natCast] using this
  refine ⟨_, hrun, fun wx i k hi2 hk => ?_⟩
  obtain ⟨w', hr, ho, _⟩ := run_makeSlice_full (P := Try.prog) wx wx.heap.size 74 78 i0 _ 8 Try.underlying74 hi hz0 hz1 .i64 .i64 n (by omega) (by rw [hz2]; omega) (by unfold maxLen; omega) (Nat.le_refl _)
  rw [hrun wx] at hr
  simp only [Result.ok.injEq] at hr
  obtain ⟨_, rfl⟩ := hr
  refine ⟨?_, ho.frozenAt _⟩
  rw [ho.cellAt _ (by omega)]
  exact zeros8_made n _ (by omega)
/-- The rows when k heaps have been gone through; in the heap k some lengths. -/
def rowF (H : Nat → Nat → Int) (n k i j : Nat) : Int := if i < k then numR H n i j else 0
def rowP (H : Nat → Nat → Int) (n k : Nat) (pre : List (Fin 8)) (i j : Nat) : Int := if i = k then (if (∃ x ∈ pre, (x : Fin 8).val = j) then numR H n i j else 0) else rowF H n k i j
theorem rowP_nil (H : Nat → Nat → Int) (n k : Nat) : rowP H n k [] = rowF H n k := by
  funext i j
  unfold rowP rowF
  by_cases h : i = k
  · rw [if_pos h, if_neg (by simp), if_neg (by omega)]
  · rw [if_neg h]
theorem rowP_same (H : Nat → Nat → Int) (n k : Nat) (pre : List (Fin 8)) (x : Fin 8) : rowP H n k (pre ++ [x]) k x.val = numR H n k x.val := by
  unfold rowP
  rw [if_pos rfl, if_pos ⟨x, by simp, rfl⟩]
theorem rowP_other (H : Nat → Nat → Int) (n k : Nat) (pre : List (Fin 8)) (x : Fin 8) {i j : Nat} (h : ¬ (i = k ∧ j = x.val)) : rowP H n k (pre ++ [x]) i j = rowP H n k pre i j := by
  unfold rowP
  by_cases hi : i = k
  · rw [if_pos hi, if_pos hi]
    have hj : ¬ j = x.val := fun e => h ⟨hi, e⟩
    have : (∃ y ∈ pre ++ [x], (y : Fin 8).val = j) ↔ (∃ y ∈ pre, (y : Fin 8).val = j) := by
      constructor
      · rintro ⟨y, hy, rfl⟩
        rcases List.mem_append.1 hy with hy | hy
        · exact ⟨y, hy, rfl⟩
        · rw [List.mem_singleton] at hy
          exact absurd (by rw [hy]) hj
      · rintro ⟨y, hy, rfl⟩
        exact ⟨y, List.mem_append_left _ hy, rfl⟩
    by_cases hm : ∃ y ∈ pre, (y : Fin 8).val = j
    · rw [if_pos (this.2 hm), if_pos hm]
    · rw [if_neg (fun h => hm (this.1 h)), if_neg hm]
  · rw [if_neg hi, if_neg hi]
theorem rowP_all (H : Nat → Nat → Int) (n k : Nat) {i j : Nat} (hj : j < 8) : rowP H n k (nz (H k) 8) i j = rowF H n (k + 1) i j := by
  by_cases hi : i = k
  · subst hi
    have e : rowP H n i (nz (H i) 8) i j = (if (∃ x ∈ nz (H i) 8, (x : Fin 8).val = j) then numR H n i j else 0) := by unfold rowP; exact if_pos rfl
    have e2 : rowF H n (i + 1) i j = numR H n i j := if_pos (by omega)
    rw [e, e2]
    by_cases hz : H i j = 0
    · have : ¬ ∃ x ∈ nz (H i) 8, (x : Fin 8).val = j := by
        rintro ⟨x, hx, rfl⟩
        exact ((mem_nz (H i) x 8 (Nat.le_refl _)).1 hx).2 hz
      rw [if_neg this]
      unfold numR
      rw [hz, Int.zero_mul]
    · have : ∃ x ∈ nz (H i) 8, (x : Fin 8).val = j := ⟨⟨j, hj⟩, (mem_nz (H i) ⟨j, hj⟩ 8 (Nat.le_refl _)).2 ⟨hj, hz⟩, rfl⟩
      rw [if_pos this]
  · have e : rowP H n k (nz (H k) 8) i j = rowF H n k i j := by unfold rowP; exact if_neg hi
    rw [e]
    unfold rowF
    by_cases hk : i < k
    · rw [if_pos hk, if_pos (by omega)]
    · rw [if_neg hk, if_neg (by omega)]
theorem RowsAt.congr {w : World} {rb n : Nat} {R S : Nat → Nat → Int} (h : RowsAt w rb n R) (e : ∀ i j, i < n → j < 8 → R i j = S i j) : RowsAt w rb n S := fun i k hi hk => by rw [← e i k hi hk]; exact h i k hi hk
theorem RowsAt.below {w w' : World} {rb n B : Nat} {R : Nat → Nat → Int} (h : RowsAt w rb n R) (hB : Below B w w') (hl : rb < B) : RowsAt w' rb n R := fun i k hi hk => ⟨kept hB hl (h i k hi hk).1, (hB.frozen (p := ⟨rb, i * 8 + k, none⟩) hl).trans (h i k hi hk).2⟩
theorem RowsAt.keptR {W W' : World} {row : Option Nat} {rb n : Nat} {R : Nat → Nat → Int} (h : RowsAt W rb n R) (hg : W.grownBy W' row) (hr : ∀ r, row = some r → ∃ o : Obj, W.heap[r]? = some o ∧ o.isCells = false) : RowsAt W' rb n R :=
  fun i k hi hk => ⟨cell_kept (h i k hi hk).1 hg hr, (frozen_kept (h i k hi hk).1 hg hr).trans (h i k hi hk).2⟩
theorem RowsAt.put {W : World} {rb n : Nat} {R S : Nat → Nat → Int} (h : RowsAt W rb n R) {a b : Nat} (ha : a < n) (hb : b < 8) (e : ∀ i j, ¬ (i = a ∧ j = b) → R i j = S i j) {v : Int} (hv : v = S a b) : RowsAt (W.setCell ⟨rb, a * 8 + b, none⟩ (.int .i64 v)) rb n S := fun i k hi hk => by
  refine ⟨?_, by rw [World.frozen?_setCell]; exact (h i k hi hk).2⟩
  by_cases hh : i = a ∧ k = b
  · obtain ⟨rfl, rfl⟩ := hh
    rw [hv]
    exact World.cell?_setCell_same _ _ _ (h i k hi hk).1
  · rw [World.cell?_setCell_other (h := fun hx => hh (by have := congrArg Addr.off hx; simp only at this; omega)), ← e i k hh]
    exact (h i k hi hk).1
theorem RowsAt.other {W : World} {rb n c o : Nat} {R : Nat → Nat → Int} (h : RowsAt W rb n R) (hne : c ≠ rb) (v : Value) : RowsAt (W.setCell ⟨c, o, none⟩ v) rb n R := fun i k hi hk => ⟨by
  rw [World.cell?_setCell_other (h := fun hx => hne (congrArg Addr.block hx))]; exact (h i k hi hk).1, by rw [World.frozen?_setCell]; exact (h i k hi hk).2⟩
theorem RowsAt.blk {w : World} {rb n : Nat} {R : Nat → Nat → Int} (h : RowsAt w rb n R) (hn : 0 < n) : rb < w.heap.size := by
  have := (h 0 0 hn (by omega)).1
  exact World.block_lt_of_cell? _ _ this
/-- Between two heaps: the box of the rows' slice, the rows, the marks. -/
def CsJ (H : Nat → Nat → Int) (n : Nat) (w : World) (rb k : Nat) (Ds : List Nat) (W : World) : Prop :=
  W.cell? ⟨rb + 1, 0, none⟩ = some (.slice (some ⟨rb, 0, none⟩) n n) ∧ RowsAt W rb n (rowF H n k) ∧ Below w.heap.size w W ∧ Marks w.heap.size Ds W
def CsPost (H : Nat → Nat → Int) (n : Nat) (w : World) (e : Ending) (w' : World) : Prop := ∃ rb, e = .returned (.tuple #[.slice (some ⟨rb, 0, none⟩) n n, .int .i64 (lcTo (sumH H) n)]) ∧ w.heap.size ≤ rb ∧ RowsAt w' rb n (numR H n) ∧ Below w.heap.size w w'

theorem pairV_self (z : Nat → Int) : pairV (z8 (z 0) (z 1) (z 2) (z 3) (z 4) (z 5) (z 6) (z 7)) = pairV z := funext fun i => by unfold pairV; rw [z8_self z i.val i.isLt]
theorem nz_self (z : Nat → Int) : ∀ k, k ≤ 8 → nz (z8 (z 0) (z 1) (z 2) (z 3) (z 4) (z 5) (z 6) (z 7)) k = nz z k
  | 0, _ => rfl
  | k + 1, hk => by
    have ih := nz_self z k (by omega)
    by_cases h : z k = 0
    · rw [nz_zero h, nz_zero (by rw [z8_self z k (by omega)]; exact h), ih]
    · rw [nz_some h (by omega), nz_some (by rw [z8_self z k (by omega)]; exact h) (by omega), ih]
theorem lengths_at (z : Nat → Int) (w : World) : Calls Try.prog 38 #[.agg #[.int .i32 (z 0), .int .i32 (z 1), .int .i32 (z 2), .int .i32 (z 3), .int .i32 (z 4), .int .i32 (z 5), .int .i32 (z 6), .int .i32 (z 7)]] w fun e w' => e = .returned (.func (.func 58) #[] #[.pointer (some ⟨w.heap.size, 0, none⟩)]) ∧ w.alloc (.cells #[.int .i32 (z 0), .int .i32 (z 1), .int .i32 (z 2), .int .i32 (z 3), .int .i32 (z 4), .int .i32 (z 5), .int .i32 (z 6), .int .i32 (z 7)] 23) = w' :=
  ((callsIn_wide (n := 9)).1 (lengths_in Fence.wide 9 trivial rfl (z 0) (z 1) (z 2) (z 3) (z 4) (z 5) (z 6) (z 7) w)).mono fun _ _ ⟨he, hw⟩ => ⟨he, hw.symm⟩
theorem stops_at (F : Fence) (n : Nat) (hF : F.fn 58) (hro : F.round = none) (hn : 1 ≤ n) (Bs : Nat) (z : Nat → Int) (hok : okH z = true) (Kp : World → World → Prop) (w : World) (hBs : Bs < w.heap.size) (hH : HeapAt w Bs 0 z) :
    SeqStopsK F n Try.prog 58 #[.pointer (some ⟨Bs, 0, none⟩)] (pairV z) Kp (fun ys => ys = nz z 8) (fun pre => ∃ k, k < 8 ∧ z8 (z 0) (z 1) (z 2) (z 3) (z 4) (z 5) (z 6) (z 7) k ≠ 0 ∧ pre = nz (z8 (z 0) (z 1) (z 2) (z 3) (z 4) (z 5) (z 6) (z 7)) (k + 1)) 8 w := by
  have hb := okH_of hok
  have h32 : ∀ j, j < 8 → in32 (z j) := fun j hj => by have := hb j hj; unfold in32; omega
  have := lengths_stops F n hF hro hn Bs (z 0) (z 1) (z 2) (z 3) (z 4) (z 5) (z 6) (z 7) (bd32_z8 (h32 0 (by omega)) (h32 1 (by omega)) (h32 2 (by omega)) (h32 3 (by omega)) (h32 4 (by omega)) (h32 5 (by omega)) (h32 6 (by omega)) (h32 7 (by omega))) Kp w hBs (fun k hk => by rw [z8_self z k hk]; exact hH k hk)
  rw [pairV_self, nz_self z 8 (Nat.le_refl _)] at this
  exact this
/-- Between two lengths of a heap. -/
def CsR (H : Nat → Nat → Int) (n : Nat) (w : World) (rb k bi bt : Nat) (t : Int) (Ds : List Nat) (pre : List (Fin 8)) (W : World) : Prop :=
  (W.cell? ⟨rb + 1, 0, none⟩ = some (.slice (some ⟨rb, 0, none⟩) n n) ∧ W.cell? ⟨bi, 0, none⟩ = some (.int .i64 (k : Int)) ∧ W.cell? ⟨bt, 0, none⟩ = some (.int .i64 t)) ∧ RowsAt W rb n (rowP H n k pre) ∧ Below w.heap.size w W ∧ Marks w.heap.size Ds W
theorem csR_own (H : Nat → Nat → Int) (n : Nat) (w : World) (rb k bi bt : Nat) (t : Int) (Ds : List Nat) {C : Nat} (hC : w.heap.size ≤ C) (hDs : ∀ D ∈ Ds, D < C) : OwnFrom C (CsR H n w rb k bi bt t Ds) := fun s W W' row hs hg hr => by
  have hr2 : ∀ r, row = some r → ∃ o : Obj, W.heap[r]? = some o ∧ o.isCells = false := fun r e => (hr r e).2
  obtain ⟨⟨h1, h2, h3⟩, h4, h5, h6⟩ := hs
  exact ⟨⟨cell_kept h1 hg hr2, cell_kept h2 hg hr2, cell_kept h3 hg hr2⟩, h4.keptR hg hr2, ownFrom_below (n₀ := w.heap.size) (w₀ := w) (Nat.le_refl _) hC s W W' row h5 hg hr, Marks.own Ds hDs s W W' row h6 hg hr⟩
theorem CsR.drew {H : Nat → Nat → Int} {n : Nat} {w : World} {rb k bi bt : Nat} {t : Int} {Ds : List Nat} {pre : List (Fin 8)} {W : World} (h : CsR H n w rb k bi bt t Ds pre W) : CsR H n w rb k bi bt t Ds pre W.drew :=
  ⟨⟨h.1.1, h.1.2.1, h.1.2.2⟩, fun i k hi hk => ⟨(h.2.1 i k hi hk).1, (h.2.1 i k hi hk).2⟩, h.2.2.1.drew, h.2.2.2.1, h.2.2.2.2⟩
theorem csR_step {H : Nat → Nat → Int} {n : Nat} {w : World} {rb k bi bt : Nat} {t : Int} {Ds : List Nat} {pre : List (Fin 8)} {W : World} (h : CsR H n w rb k bi bt t Ds pre W) (x : Fin 8) (hk : k < n) (hi : bi ≠ rb) (hb : bt ≠ rb) (hw : w.heap.size ≤ rb) {v : Int} (hv : v = numR H n k x.val) :
    CsR H n w rb k bi bt t Ds (pre ++ [x]) (W.setCell ⟨rb, k * 8 + x.val, none⟩ (.int .i64 v)) := by
  obtain ⟨⟨h1, h2, h3⟩, h4, h5, h6⟩ := h
  have o := fun {b : Nat} (hh : rb ≠ b) (u : Value) (hu : W.cell? ⟨b, 0, none⟩ = some u) => ((World.cell?_setCell_other W ⟨rb, k * 8 + x.val, none⟩ ⟨b, 0, none⟩ (.int .i64 v) (by intro e; exact hh (congrArg Addr.block e))).trans hu)
  refine ⟨⟨o (by omega) _ h1, o (fun e => hi e.symm) _ h2, o (fun e => hb e.symm) _ h3⟩, ?_, h5.setCell hw _, h6.keeps (KeepsOthers.setCell _ _ _)⟩
  exact h4.put hk x.isLt (fun i j hij => (rowP_other H n k pre x hij).symm) (by rw [hv, rowP_same])

set_option maxRecDepth 100000 in
set_option maxHeartbeats 8000000 in
theorem cs_yes (H : Nat → Nat → Int) (n c hb : Nat) (w : World) (hn0 : 0 < n) (hn : n ≤ 1000) (hH : HeapsAt w hb n H) (hlt : hb < w.heap.size) (hok : ∀ i, i < n → okH (H i) = true) (hs : LcOk (sumH H) n) :
    Calls Try.prog 53 #[.slice (some ⟨hb, 0, none⟩) n c] w (CsPost H n w) := by
  have HH := Lib.hid hH
  have HOK := Lib.hid hok
  have HS := Lib.hid hs
  have HLT := Lib.hid hlt
  clear hH hok hs hlt
  obtain ⟨RC, hmk, hrows⟩ := make_rows n hn
  have HRW := Lib.hid hrows
  clear hrows
  refine (callsIn_wide (n := 9)).1 ?_
  refine callsIn_of_wp_marks Try.func53 rfl trivial ?_ rfl
  simp only [Try.ntmps53, List.size_toArray, List.length_cons, List.length_nil, Nat.reduceAdd, Nat.reduceSub, Array.replicate_succ, Array.replicate_zero, List.push_toArray, List.append_toArray, List.nil_append, List.cons_append]
  refine wpIn_wide.2 ?_
  go_wp2
  go_loopw [4, 15] (fun o i wr => ∃ k : Nat, k ≤ n ∧ i = .int .i64 k ∧ o = .int .i64 (lcTo (sumH H) k) ∧ Hid (Below w.heap.size w wr)) (fun _ i _ => n - (intOf i).toNat)
  case atStart => exact ⟨0, by omega, rfl, rfl, Lib.hid (Below.refl _ _)⟩
  case round =>
    obtain ⟨k, hk, rfl, rfl, hB⟩ := hrel
    by_cases hlt : k < n
    · have hA := (HH.out.below hB.out HLT.out) k hlt
      have hok := HOK.out k hlt
      have c0 : wr.cell? ⟨hb, k * 8, none⟩ = some (.int .i32 (H k 0)) := hA 0 (by omega)
      have c1 : wr.cell? ⟨hb, k * 8 + 1, none⟩ = some (.int .i32 (H k 1)) := hA 1 (by omega)
      have c2 : wr.cell? ⟨hb, k * 8 + 2, none⟩ = some (.int .i32 (H k 2)) := hA 2 (by omega)
      have c3 : wr.cell? ⟨hb, k * 8 + 3, none⟩ = some (.int .i32 (H k 3)) := hA 3 (by omega)
      have c4 : wr.cell? ⟨hb, k * 8 + 4, none⟩ = some (.int .i32 (H k 4)) := hA 4 (by omega)
      have c5 : wr.cell? ⟨hb, k * 8 + 5, none⟩ = some (.int .i32 (H k 5)) := hA 5 (by omega)
      have c6 : wr.cell? ⟨hb, k * 8 + 6, none⟩ = some (.int .i32 (H k 6)) := hA 6 (by omega)
      have c7 : wr.cell? ⟨hb, k * 8 + 7, none⟩ = some (.int .i32 (H k 7)) := hA 7 (by omega)
      have HW := Lib.hid fun wx => woolOf_at (H k) hok (by have := (HS.out.1 k hlt).1; unfold sumH at this; omega) wx
      have b1 := HS.out.1 k hlt
      have b2 := HS.out.2 k (by omega)
      have b3 := HS.out.2 (k + 1) (by omega)
      have HL := Lib.hid fun wx => lcm_any (lcTo (sumH H) k) (sumH H k) wx b2.1 b2.2 b1.1 b1.2
      rw [← lcTo_succ] at HL
      rw [show sumTo (H k) 8 = sumH H k from rfl] at HW
      clear hA hok
      generalize sumH H k = sk at *
      go_wp2_with fail
      refine (HW.out _).mono ?_
      rintro e w1 ⟨rfl, hB1⟩
      have T1 := Lib.hid (hB.out.trans ((((Below.refl wr.heap.size wr).alloc (Nat.le_refl _) (.cells #[.int .i32 (H k 0), .int .i32 (H k 1), .int .i32 (H k 2), .int .i32 (H k 3), .int .i32 (H k 4), .int .i32 (H k 5), .int .i32 (H k 6), .int .i32 (H k 7)] 23)).trans (hB1.mono (by simp))).mono hB.out.size))
      clear hB1 c0 c1 c2 c3 c4 c5 c6 c7
      go_wp2_with fail
      refine (HL.out _).mono ?_
      rintro e w2 ⟨rfl, nd, rfl⟩
      go_wp2_with fail
      go_roundw
      case rel => exact ⟨k + 1, by omega, by go_num, rfl, Lib.hid (below_drewN T1.out _)⟩
      case measure => simp [intOf]; omega
    · obtain rfl : k = n := by omega
      go_wp2_with fail
      obtain ⟨rb, hrb⟩ : ∃ rb, rb = wr.heap.size := ⟨_, rfl⟩
      have J0 : CsJ H k w rb 0 [] ((wr.alloc (.cells RC 78)).alloc (.cells #[.slice (some ⟨rb, 0, none⟩) k k] 74)) := by
        subst hrb
        refine ⟨by simp [go_sem], ?_, (hB.out.alloc hB.out.size _).alloc (by have := hB.out.size; simp; omega) _, Marks.nil _ _⟩
        refine ((HRW.out wr).below (B := wr.heap.size + 1) ((Below.refl _ _).alloc (by simp) _) (by omega)).congr fun i j _ _ => ?_
        unfold rowF
        rw [if_neg (by omega)]
      have hrbw : w.heap.size ≤ rb := by rw [hrb]; exact hB.out.size
      have HJ0 := Lib.hid J0
      rw [← hrb]
      obtain ⟨W1, hW1⟩ : ∃ W1, (wr.alloc (.cells RC 78)).alloc (.cells #[.slice (some ⟨rb, 0, none⟩) k k] 74) = W1 := ⟨_, rfl⟩
      rw [hW1] at HJ0 ⊢
      clear hW1 J0 hrb hB hmk HRW hlt hk
      refine wp_loop_ghost_k (fun g a W => ∃ m : Nat, m ≤ k ∧ g = k - m ∧ ∃ (v8 v9 v10 v11 v12 v30 v31 v32 v33 v34 v35 v36 v37 v38 v39 v40 v41 v42 v43 v44 v45 v46 v47 v48 v49 v50 : Value) (Ds : List Nat), a = { tmps := #[.slice (some ⟨hb, 0, none⟩) k c, undef, .slice none 0 0, .int .i64 0, .int .i64 (lcTo (sumH H) k), undef, u6, .pointer (some ⟨rb + 1, 0, none⟩), v8, v9, v10, v11, v12, .slice (some ⟨hb, 0, none⟩) k c, .int .i64 k, .int .i64 k, .bool false, u17, u18, u19, u20, u21, u22, u23, .slice (some ⟨hb, 0, none⟩) k c, .int .i64 k, .slice (some ⟨rb, 0, none⟩) k k, .slice (some ⟨hb, 0, none⟩) k c, .int .i64 k, .int .i64 (m : Int), v30, v31, v32, v33, v34, v35, v36, v37, v38, v39, v40, v41, v42, v43, v44, v45, v46, v47, v48, v49, v50, undef, undef], defers := Ds.map markOf } ∧ Hid (CsJ H k w rb m Ds W)) k ?_ ?_
      · exact ⟨0, by omega, by omega, undef, undef, undef, undef, undef, undef, undef, undef, undef, undef, undef, undef, undef, undef, undef, undef, undef, undef, undef, undef, undef, undef, undef, undef, undef, undef, [], rfl, HJ0⟩
      · rintro g a W ⟨m, hm, rfl, v8, v9, v10, v11, v12, v30, v31, v32, v33, v34, v35, v36, v37, v38, v39, v40, v41, v42, v43, v44, v45, v46, v47, v48, v49, v50, Ds, rfl, HJ⟩ J K hJ hK
        clear HJ0
        by_cases hlt : m < k
        · have hA := (HH.out.below HJ.out.2.2.1 HLT.out) m hlt
          have hok := HOK.out m hlt
          have c0 : W.cell? ⟨hb, m * 8, none⟩ = some (.int .i32 (H m 0)) := hA 0 (by omega)
          have c1 : W.cell? ⟨hb, m * 8 + 1, none⟩ = some (.int .i32 (H m 1)) := hA 1 (by omega)
          have c2 : W.cell? ⟨hb, m * 8 + 2, none⟩ = some (.int .i32 (H m 2)) := hA 2 (by omega)
          have c3 : W.cell? ⟨hb, m * 8 + 3, none⟩ = some (.int .i32 (H m 3)) := hA 3 (by omega)
          have c4 : W.cell? ⟨hb, m * 8 + 4, none⟩ = some (.int .i32 (H m 4)) := hA 4 (by omega)
          have c5 : W.cell? ⟨hb, m * 8 + 5, none⟩ = some (.int .i32 (H m 5)) := hA 5 (by omega)
          have c6 : W.cell? ⟨hb, m * 8 + 6, none⟩ = some (.int .i32 (H m 6)) := hA 6 (by omega)
          have c7 : W.cell? ⟨hb, m * 8 + 7, none⟩ = some (.int .i32 (H m 7)) := hA 7 (by omega)
          have HW := Lib.hid fun wx => woolOf_at (H m) hok (by have := (HS.out.1 m hlt).1; unfold sumH at this; omega) wx
          have b1 := HS.out.1 m hlt
          have b2 := HS.out.2 k (by omega)
          have HL := Lib.hid fun wx => lengths_at (H m) wx
          have HOKM := Lib.hid hok
          obtain ⟨t, ht⟩ : ∃ t, lcTo (sumH H) k / sumH H m = t := ⟨_, rfl⟩
          have ht0 : 0 ≤ t ∧ t ≤ 1000000000000000 := by rw [← ht]; exact ⟨Int.ediv_nonneg (by omega) (by omega), Int.le_trans (Int.ediv_le_self _ (by omega)) b2.2⟩
          rw [show sumTo (H m) 8 = sumH H m from rfl] at HW
          have hs0 : ¬ sumH H m = 0 := by omega
          have HT := Lib.hid ht
          clear ht hA hok
          go_wp2_with fail
          refine (HW.out _).mono ?_
          rintro e w1 ⟨rfl, hB1⟩
          have Z1 := hB1.size
          simp only [World.size_alloc] at Z1
          have hz1 : W.heap.size + 1 < w1.heap.size := by omega
          have hz0 : W.heap.size < w1.heap.size := by omega
          have hBW : Below W.heap.size W w1 := (((Below.refl _ _).alloc (Nat.le_refl _) _).alloc (by simp) _).trans (hB1.mono (by simp; omega))
          have i0 : w1.cell? ⟨W.heap.size, 0, none⟩ = some (.int .i64 (m : Int)) := kept hB1 (by simp; omega) (by simp [go_sem])
          have a0 : w1.cell? ⟨W.heap.size + 1, 0, none⟩ = some (.int .i32 (H m 0)) := kept hB1 (by simp) (by simp [go_sem])
          have a1 : w1.cell? ⟨W.heap.size + 1, 1, none⟩ = some (.int .i32 (H m 1)) := kept hB1 (by simp) (by simp [go_sem])
          have a2 : w1.cell? ⟨W.heap.size + 1, 2, none⟩ = some (.int .i32 (H m 2)) := kept hB1 (by simp) (by simp [go_sem])
          have a3 : w1.cell? ⟨W.heap.size + 1, 3, none⟩ = some (.int .i32 (H m 3)) := kept hB1 (by simp) (by simp [go_sem])
          have a4 : w1.cell? ⟨W.heap.size + 1, 4, none⟩ = some (.int .i32 (H m 4)) := kept hB1 (by simp) (by simp [go_sem])
          have a5 : w1.cell? ⟨W.heap.size + 1, 5, none⟩ = some (.int .i32 (H m 5)) := kept hB1 (by simp) (by simp [go_sem])
          have a6 : w1.cell? ⟨W.heap.size + 1, 6, none⟩ = some (.int .i32 (H m 6)) := kept hB1 (by simp) (by simp [go_sem])
          have a7 : w1.cell? ⟨W.heap.size + 1, 7, none⟩ = some (.int .i32 (H m 7)) := kept hB1 (by simp) (by simp [go_sem])
          have T1 := Lib.hid hBW
          clear hB1 c0 c1 c2 c3 c4 c5 c6 c7 Z1 hBW
          go_wp2_with fail
          rw [HT.out]
          refine (HL.out _).mono ?_
          rintro e w2 ⟨rfl, hw2⟩
          have hsz := HJ.out.2.1.blk (by omega)
          have hlt1 : rb + 1 < W.heap.size := World.block_lt_of_cell? _ _ HJ.out.1
          have hB2 : Below w1.heap.size w1 w2 := by rw [← hw2]; go_grown
          have hB02 : Below W.heap.size W w2 := T1.out.trans (hB2.mono (by omega))
          have hs2 : w2.heap.size = w1.heap.size + 2 := by rw [← hw2]; simp
          have hH2 : HeapAt w2 (w1.heap.size + 1) 0 (H m) := by
            rw [← hw2]
            have := heapAt_alloc (w1.alloc (.cells #[.int .i64 t] 2)) (H m 0) (H m 1) (H m 2) (H m 3) (H m 4) (H m 5) (H m 6) (H m 7) 23
            rw [World.size_alloc] at this
            exact fun k hk => by rw [this k hk, z8_self (H m) k hk]
          have hR0 : CsR H k w rb m W.heap.size w1.heap.size t Ds [] w2 := by
            refine ⟨⟨kept hB02 hlt1 HJ.out.1, kept hB2 hz0 i0, by rw [← hw2]; simp [go_sem]⟩, ?_, HJ.out.2.2.1.trans (hB02.mono HJ.out.2.2.1.size), HJ.out.2.2.2.below hB02⟩
            rw [rowP_nil]
            exact HJ.out.2.1.below hB02 hsz
          have hww : w.heap.size ≤ w2.heap.size := hR0.2.2.1.size
          have hDs : ∀ D ∈ Ds, D < w2.heap.size := hR0.2.2.2.lt
          have hseq := stops_at Fence.wide (9 - 1) trivial rfl (by omega) (w1.heap.size + 1) (H m) HOKM.out (fun _ _ => True) w2 (by omega) hH2
          have HR0 := Lib.hid hR0
          clear hw2 hH2 hR0 i0 a0 a1 a2 a3 a4 a5 a6 a7
          go_wp2_with fail
          refine (wpIn_wide (n := 9)).1 ?_
          refine wpIn_rangeFunc_ownG (n := 9) rfl (by omega) (gf := 58) (lb := #[.pointer (some ⟨w1.heap.size + 1, 0, none⟩)]) rfl trivial (enters_of Try.func58 (by kernel_rfl) rfl)
            hseq (fun _ _ => trivial) (fun _ _ _ _ _ _ _ _ => trivial) (Below.refl _ _) (fun _ => rfl)
            (CsR H k w rb m W.heap.size w1.heap.size t Ds)
            (fun _ _ _ => False)
            (csR_own H k w rb m W.heap.size w1.heap.size t Ds hww hDs)
            (fun c s W W' row hs hgr hr => hs)
            HR0.out
            (fun i => { tmps := #[.slice (some ⟨hb, 0, none⟩) k c, undef, .slice none 0 0, .int .i64 0, .int .i64 (lcTo (sumH H) k), undef, u6, .pointer (some ⟨rb + 1, 0, none⟩), .pointer (some ⟨W.heap.size, 0, none⟩), .pointer (some ⟨W.heap.size + 1, 0, none⟩), .pointer (some ⟨w1.heap.size, 0, none⟩), .int .i64 (i.val : Int), .int .i64 (H m i.val), .slice (some ⟨hb, 0, none⟩) k c, .int .i64 k, .int .i64 k, .bool false, u17, u18, u19, u20, u21, u22, u23, .slice (some ⟨hb, 0, none⟩) k c, .int .i64 k, .slice (some ⟨rb, 0, none⟩) k k, .slice (some ⟨hb, 0, none⟩) k c, .int .i64 k, .int .i64 (m : Int), .bool true, .int .i64 (m : Int), .pointer (some ⟨hb, m * 8, none⟩), .agg #[.int .i32 (H m 0), .int .i32 (H m 1), .int .i32 (H m 2), .int .i32 (H m 3), .int .i32 (H m 4), .int .i32 (H m 5), .int .i32 (H m 6), .int .i32 (H m 7)], .int .i64 (lcTo (sumH H) k), .agg #[.int .i32 (H m 0), .int .i32 (H m 1), .int .i32 (H m 2), .int .i32 (H m 3), .int .i32 (H m 4), .int .i32 (H m 5), .int .i32 (H m 6), .int .i32 (H m 7)], .int .i64 (sumH H m), .int .i64 t, .agg #[.int .i32 (H m 0), .int .i32 (H m 1), .int .i32 (H m 2), .int .i32 (H m 3), .int .i32 (H m 4), .int .i32 (H m 5), .int .i32 (H m 6), .int .i32 (H m 7)], .func (.func 58) #[] #[.pointer (some ⟨w1.heap.size + 1, 0, none⟩)], .int .i64 (i.val : Int), .int .i64 (H m i.val), v42, v43, v44, v45, v46, v47, v48, v49, v50, undef, undef], defers := [] }) ?assign ?body ?done ?stop
          case assign =>
            intro l x W K hK
            dsimp only [pairV]
            gi_wp2
            exact hK
          case body =>
            rintro l pre x X hR hlen
            have hx : x.val < 8 := x.isLt
            have hb := okH_of HOKM.out x.val hx
            have HSt := Lib.hid fun v hv => csR_step (v := v) hR x hlt (by omega) (by omega) hrbw hv
            have hv : H m x.val * t = numR H k m x.val := by unfold numR; rw [HT.out]
            have HV := Lib.hid hv
            obtain ⟨⟨d1, d2, d3⟩, hrow, _, _⟩ := hR
            have e1 := (hrow m x.val hlt hx).1
            have e2 := (hrow m x.val hlt hx).2
            have hp : 0 ≤ H m x.val * t ∧ H m x.val * t ≤ 1000000000000000000 := by
              refine ⟨Int.mul_nonneg hb.1 ht0.1, ?_⟩
              have := Int.mul_le_mul hb.2 ht0.2 ht0.1 (by omega)
              omega
            have hx' : (x.val : Int) < 8 := by omega
            have hm' : (m : Int) < (k : Int) := by omega
            clear hrow hv
            gi_wp2
            refine in_region_still_tail 8 (by kernel_rfl) (by kernel_rfl) (by kernel_rfl) (fun ⟨_, _, h⟩ => h) ?_
            simp only [List.take_succ_cons, List.take_zero, List.drop_succ_cons, List.drop_zero]
            repeat still_step
            refine wpStill_nil ?_
            go_wp2_with fail
            exact ⟨⟨(KeepsOthers.setCell X ⟨rb, m * 8 + x.val, none⟩ (.int .i64 (H m x.val * t))).size, fun k o _ hk ho => (KeepsOthers.setCell X ⟨rb, m * 8 + x.val, none⟩ (.int .i64 (H m x.val * t))).same k o hk ho⟩, trivial, (HSt.out _ HV.out).drew⟩
          case done =>
            rintro D ys X hD rfl hR hK2
            have HJ2 : Hid (CsJ H k w rb (m + 1) (D :: Ds) X) := Lib.hid ⟨hR.1.1, hR.2.1.congr (fun i j _ hj => rowP_all H k m hj), hR.2.2.1, hR.2.2.2.cons (by omega) hK2 (fun E hE => by have := hDs E hE; omega)⟩
            clear hR hK2 hDs HR0
            go_wp2_with fail
            exact Handed.intro (k - (m + 1)) (by omega) (hJ _ _ _ ⟨m + 1, by omega, rfl, _, _, _, _, _, _, _, _, _, _, _, _, _, _, _, _, _, _, _, _, _, _, _, _, _, _, D :: Ds, rfl, HJ2⟩)
          case stop =>
            rintro D c pre W hD hp hI hK
            exact hI.elim
        · obtain rfl : m = k := by omega
          have q1 := HJ.out.1
          go_wp2_with fail
          refine leaves_marks Ds _ _ (by simp) HJ.out.2.2.2 fun w' hb' hc' => ?_
          refine ⟨.tuple #[.slice (some ⟨rb, 0, none⟩) m m, .int .i64 (lcTo (sumH H) m)], by simp [results, Try.results53, go_sem], rb, rfl, hrbw, fun i j hi hj => ?_, HJ.out.2.2.1.trans hb'⟩
          obtain ⟨r1, r2⟩ := HJ.out.2.1 i j hi hj
          have e : rowF H m m i j = numR H m i j := if_pos hi
          rw [e] at r1
          exact ⟨(hc' _ _ r1).1, (hc' _ _ r1).2.trans r2⟩
end Go.Proofs.Ytekejhnhkifcfaa
