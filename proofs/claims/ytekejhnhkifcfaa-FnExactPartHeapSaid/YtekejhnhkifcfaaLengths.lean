/-
  No statement is proved here: the iterator over the lengths of which a heap has wool: which pairs it yields, in which order; no condition but that the numbers are int32s.
-/
import Derived.Test.YtekejhnhkifcfaaHeapX
import Derived.RangeFuncNested
import Derived.RangeFuncBound
import Derived.RangeFuncCalls
import Derived.RangeFuncLeaves
import Derived.RangeFuncBox
import Derived.RangeFuncWrites
import Derived.Shelf.Abstract
import Derived.Shelf.RegionOpen
import Derived.OwnWalkIn
import Derived.TacticsInMore
import Derived.LoopNIn
import Derived.LoopIn
namespace Go.Proofs.Ytekejhnhkifcfaa
open Go.RowKit Go.Shelf

attribute [local go_sem] Oper.semAt_some

set_option maxRecDepth 100000 in
/-- An array of eight numbers, indexed. -/
theorem idx8 (x0 x1 x2 x3 x4 x5 x6 x7 : Int) (k : Nat) (hk : k < 8) : ∀ w : World, (Instr.index 23 (.agg #[.int .i32 x0, .int .i32 x1, .int .i32 x2, .int .i32 x3, .int .i32 x4, .int .i32 x5, .int .i32 x6, .int .i32 x7]) (.int .i64 (k : Int))).run Try.prog w = .ok (.int .i32 (z8 x0 x1 x2 x3 x4 x5 x6 x7 k)) w := by
  match k, hk with
  | 0, _ => exact fun _ => by kernel_rfl
  | 1, _ => exact fun _ => by kernel_rfl
  | 2, _ => exact fun _ => by kernel_rfl
  | 3, _ => exact fun _ => by kernel_rfl
  | 4, _ => exact fun _ => by kernel_rfl
  | 5, _ => exact fun _ => by kernel_rfl
  | 6, _ => exact fun _ => by kernel_rfl
  | 7, _ => exact fun _ => by kernel_rfl
  | k + 8, hk => omega

/-- The lengths below k of which there is some wool, in their order. -/
def nz (z : Nat → Int) : Nat → List (Fin 8)
  | 0 => []
  | k + 1 => if z k = 0 then nz z k else (if h : k < 8 then nz z k ++ [⟨k, h⟩] else nz z k)
theorem nz_length (z : Nat → Int) (k : Nat) : (nz z k).length ≤ k := by
  induction k with
  | zero => simp [nz]
  | succ k ih =>
    unfold nz
    split
    · omega
    · split
      · simp; omega
      · omega
theorem nz_zero {z : Nat → Int} {k : Nat} (h : z k = 0) : nz z (k + 1) = nz z k := by rw [nz, if_pos h]
theorem nz_some {z : Nat → Int} {k : Nat} (h : ¬ z k = 0) (hk : k < 8) : nz z (k + 1) = nz z k ++ [⟨k, hk⟩] := by rw [nz, if_neg h, dif_pos hk]
theorem mem_nz (z : Nat → Int) (i : Fin 8) : ∀ k : Nat, k ≤ 8 → (i ∈ nz z k ↔ i.val < k ∧ z i.val ≠ 0)
  | 0, _ => by simp [nz]
  | k + 1, hk => by
    have ih := mem_nz z i k (by omega)
    by_cases h : z k = 0
    · rw [nz_zero h, ih]
      constructor
      · exact fun hh => ⟨by omega, hh.2⟩
      · intro hh
        refine ⟨?_, hh.2⟩
        by_cases e : i.val = k
        · exact absurd (e ▸ h) hh.2
        · omega
    · rw [nz_some h (by omega), List.mem_append, ih, List.mem_singleton]
      constructor
      · rintro (hh | hh)
        · exact ⟨by omega, hh.2⟩
        · subst hh
          exact ⟨by simp, h⟩
      · intro hh
        by_cases e : i.val = k
        · exact .inr (Fin.ext e)
        · exact .inl ⟨by omega, hh.2⟩

/-- What the iterator hands over in a round: the length and its grams. -/
def pairV (z : Nat → Int) (i : Fin 8) : Array Value := #[.int .i64 (i.val : Int), .int .i64 (z i.val)]

set_option maxRecDepth 100000 in
set_option maxHeartbeats 2000000 in
theorem lengths1_in (F : Fence) (n : Nat) (hF : F.fn 58) (hro : F.round = none) (hn : 1 ≤ n) (l Bs : Nat) (x0 x1 x2 x3 x4 x5 x6 x7 : Int) (hz : bd32 (z8 x0 x1 x2 x3 x4 x5 x6 x7)) (Kp : World → World → Prop) (J Jx : List (Fin 8) → World → Prop)
    (hY : ∀ pre x W, J pre W → pre.length < 8 → YieldAt F (n - 1) Try.prog l (pairV (z8 x0 x1 x2 x3 x4 x5 x6 x7) x) W fun e W' =>
      (e = .returned (.bool true) ∧ J (pre ++ [x]) W' ∧ Kp W W') ∨ (e = .returned (.bool false) ∧ Jx (pre ++ [x]) W'))
    (W : World) (hB : ∀ o : Nat, o < 8 → W.cell? ⟨Bs, o, none⟩ = some (.int .i32 (z8 x0 x1 x2 x3 x4 x5 x6 x7 o))) (h0 : J [] W) :
    CallsIn F n Try.prog 58 #[.func (.yield l) #[] #[], .pointer (some ⟨Bs, 0, none⟩)] W fun e W' => (∃ v, e = .returned v) ∧
      ((∃ ys, ys = nz (z8 x0 x1 x2 x3 x4 x5 x6 x7) 8 ∧ J ys W') ∨ (∃ pre, (∃ k, k < 8 ∧ z8 x0 x1 x2 x3 x4 x5 x6 x7 k ≠ 0 ∧ pre = nz (z8 x0 x1 x2 x3 x4 x5 x6 x7) (k + 1)) ∧ Jx pre W')) := by
  have b0 : W.cell? ⟨Bs, 0, none⟩ = some (.int .i32 x0) := hB 0 (by omega)
  have b1 : W.cell? ⟨Bs, 1, none⟩ = some (.int .i32 x1) := hB 1 (by omega)
  have b2 : W.cell? ⟨Bs, 2, none⟩ = some (.int .i32 x2) := hB 2 (by omega)
  have b3 : W.cell? ⟨Bs, 3, none⟩ = some (.int .i32 x3) := hB 3 (by omega)
  have b4 : W.cell? ⟨Bs, 4, none⟩ = some (.int .i32 x4) := hB 4 (by omega)
  have b5 : W.cell? ⟨Bs, 5, none⟩ = some (.int .i32 x5) := hB 5 (by omega)
  have b6 : W.cell? ⟨Bs, 6, none⟩ = some (.int .i32 x6) := hB 6 (by omega)
  have b7 : W.cell? ⟨Bs, 7, none⟩ = some (.int .i32 x7) := hB 7 (by omega)
  have HZ := Lib.hid hz
  have HI := Lib.hid (idx8 x0 x1 x2 x3 x4 x5 x6 x7)
  have HB := Lib.hid (nz_length (z8 x0 x1 x2 x3 x4 x5 x6 x7))
  clear hB hz
  obtain ⟨z, hzz⟩ : ∃ z, z8 x0 x1 x2 x3 x4 x5 x6 x7 = z := ⟨_, rfl⟩
  rw [hzz] at HZ HI HB hY ⊢
  clear hzz
  refine callsIn_of_wp Try.func58 rfl hF ?_ hro
  simp only [Try.ntmps58, List.size_toArray, List.length_cons, List.length_nil, Nat.reduceAdd, Nat.reduceSub, Array.replicate_succ, Array.replicate_zero, List.push_toArray, List.append_toArray, List.nil_append, List.cons_append]
  gi_wp2
  clear b0 b1 b2 b3 b4 b5 b6 b7
  gi_loopw [6] (fun i wr => ∃ k : Nat, k ≤ 8 ∧ i = .int .i64 k ∧ J (nz z k) wr) (fun i _ => 8 - (intOf i).toNat)
  case atStart => exact ⟨0, Nat.zero_le _, rfl, h0⟩
  case round =>
    obtain ⟨k, hk, rfl, hJs⟩ := hrel
    by_cases hlt : k < 8
    · have hi := HI.out k hlt
      have hbd := HZ.out k
      by_cases hz0 : z k = 0
      · have hne : (z k != 0) = false := by simp [hz0]
        have HZ0 := Lib.hid hz0
        clear hz0
        gi_wp2
        refine ⟨fun _ h => (by cases h), ?_⟩
        gi_wp2
        go_roundw
        case rel => exact ⟨k + 1, by omega, by simp, by rw [nz_zero HZ0.out]; exact hJs⟩
        case measure => simp [intOf]; omega
      · have hne : (z k != 0) = true := by rw [bne_iff_ne]; exact hz0
        have hlen := HB.out k
        have HZ0 := Lib.hid hz0
        clear hz0
        have hnz : nz z (k + 1) = nz z k ++ [⟨k, hlt⟩] := nz_some HZ0.out hlt
        have HN := Lib.hid hnz
        clear hnz
        obtain ⟨fn, tmps, assign, body, hy, hR⟩ := hY _ ⟨k, hlt⟩ wr hJs (by omega)
        dsimp only [pairV] at hy
        gi_wp2
        refine hR.mono ?_
        rintro e W3 (⟨rfl, hJ3, hk3⟩ | ⟨rfl, hJx3⟩)
        · gi_wp2
          go_roundw
          case rel => exact ⟨k + 1, by omega, by simp, by rw [HN.out]; exact hJ3⟩
          case measure => simp [intOf]; omega
        · gi_wp2
          refine bodyPost_ret (results_none rfl _ _ _) rfl ?_
          exact ⟨⟨_, rfl⟩, .inr ⟨_, ⟨k, hlt, HZ0.out, HN.out.symm⟩, hJx3⟩⟩
    · obtain rfl : k = 8 := by omega
      gi_wp2
      go_end0
      exact ⟨⟨_, rfl⟩, .inl ⟨_, rfl, hJs⟩⟩

set_option maxHeartbeats 1000000 in
theorem lengths_in (F : Fence) (n : Nat) (hF : F.fn 38) (hro : F.round = none) (x0 x1 x2 x3 x4 x5 x6 x7 : Int) (w : World) :
    CallsIn F n Try.prog 38 #[.agg #[.int .i32 x0, .int .i32 x1, .int .i32 x2, .int .i32 x3, .int .i32 x4, .int .i32 x5, .int .i32 x6, .int .i32 x7]] w fun e w' => e = .returned (.func (.func 58) #[] #[.pointer (some ⟨w.heap.size, 0, none⟩)]) ∧ w' = w.alloc (.cells #[.int .i32 x0, .int .i32 x1, .int .i32 x2, .int .i32 x3, .int .i32 x4, .int .i32 x5, .int .i32 x6, .int .i32 x7] 23) := by
  refine callsIn_of_wp Try.func38 rfl hF ?_ hro
  simp only [Try.ntmps38, List.size_toArray, List.length_cons, List.length_nil, Nat.reduceAdd, Nat.reduceSub, Array.replicate_succ, Array.replicate_zero, List.push_toArray, List.append_toArray, List.nil_append, List.cons_append]
  gi_wp2
  go_ret
  exact ⟨rfl, rfl⟩

/-- The iterator's contract. -/
theorem lengths_stops (F : Fence) (n : Nat) (hF : F.fn 58) (hro : F.round = none) (hn : 1 ≤ n) (Bs : Nat) (x0 x1 x2 x3 x4 x5 x6 x7 : Int) (hz : bd32 (z8 x0 x1 x2 x3 x4 x5 x6 x7)) (Kp : World → World → Prop) (w : World) (hBs : Bs < w.heap.size) (hH : HeapAt w Bs 0 (z8 x0 x1 x2 x3 x4 x5 x6 x7)) :
    SeqStopsK F n Try.prog 58 #[.pointer (some ⟨Bs, 0, none⟩)] (pairV (z8 x0 x1 x2 x3 x4 x5 x6 x7)) Kp (fun ys => ys = nz (z8 x0 x1 x2 x3 x4 x5 x6 x7) 8) (fun pre => ∃ k, k < 8 ∧ z8 x0 x1 x2 x3 x4 x5 x6 x7 k ≠ 0 ∧ pre = nz (z8 x0 x1 x2 x3 x4 x5 x6 x7) (k + 1)) 8 w := fun l J Jx W hW _ _ hY h0 => by
  have hH' := hH.below hW hBs
  refine (lengths1_in F n hF hro hn l Bs x0 x1 x2 x3 x4 x5 x6 x7 hz Kp J Jx hY W (fun o ho => by have := hH' o ho; rwa [Nat.zero_add] at this) h0).mono ?_
  rintro e W' ⟨he, ⟨ys, rfl, hj⟩ | ⟨pre, hp, hj⟩⟩
  · exact ⟨he, .inl ⟨_, rfl, hj⟩⟩
  · exact ⟨he, .inr ⟨_, hp, hj⟩⟩
end Go.Proofs.Ytekejhnhkifcfaa
