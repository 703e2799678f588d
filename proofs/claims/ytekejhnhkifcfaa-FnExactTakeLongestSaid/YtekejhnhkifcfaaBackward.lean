/-
  No statement is proved here: slices.Backward over the eight numbers of a heap: which pairs it yields, in which order; the loop's body has to leave the heap and the iterator's own box as they were.
-/
import Derived.Test.YtekejhnhkifcfaaLengths
namespace Go.Proofs.Ytekejhnhkifcfaa
open Go.RowKit Go.Shelf

attribute [local go_sem] Oper.semAt_some

/-- The lengths from 7 down, k of them. -/
def dn : Nat → List (Fin 8)
  | 0 => []
  | k + 1 => dn k ++ [⟨7 - k, by omega⟩]
theorem dn_length (k : Nat) : (dn k).length = k := by
  induction k with
  | zero => rfl
  | succ k ih => simp [dn, ih]
/-- What the iterator hands over in a round. -/
def pairB (z : Nat → Int) (i : Fin 8) : Array Value := #[.int .i64 (i.val : Int), .int .i32 (z i.val)]
/-- What the loop's body has to keep: two blocks. -/
def KeepB (Bh Bs : Nat) (W W' : World) : Prop := (∀ o : Nat, W'.cell? ⟨Bh, o, none⟩ = W.cell? ⟨Bh, o, none⟩) ∧ (∀ o : Nat, W'.cell? ⟨Bs, o, none⟩ = W.cell? ⟨Bs, o, none⟩)
theorem keepB_t {Bh Bs : Nat} {A B C : World} (h : KeepB Bh Bs A B) (k : KeepB Bh Bs B C) : KeepB Bh Bs A C := ⟨fun o => (k.1 o).trans (h.1 o), fun o => (k.2 o).trans (h.2 o)⟩
theorem keepB_refl (Bh Bs : Nat) (W : World) : KeepB Bh Bs W W := ⟨fun _ => rfl, fun _ => rfl⟩
theorem keepB_set {Bh Bs : Nat} {W W' : World} (h : KeepB Bh Bs W W') {b o : Nat} (v : Value) (h1 : b ≠ Bh) (h2 : b ≠ Bs) : KeepB Bh Bs W (W'.setCell ⟨b, o, none⟩ v) :=
  ⟨fun j => by rw [World.cell?_setCell_other (h := fun hh => h1 (by injection hh))]; exact h.1 j, fun j => by rw [World.cell?_setCell_other (h := fun hh => h2 (by injection hh))]; exact h.2 j⟩
theorem keepB_b {Bh Bs B : Nat} (h1 : Bh < B) (h2 : Bs < B) (W : World) (l : Nat) (o o' : Obj) (hl : B ≤ l) (h : W.heap[l]? = some o) (_ : o.isCells = false) (_ : o.isWalk = false) : KeepB Bh Bs W (W.putObj l o') := by
  have hB : Below B W (W.putObj l o') := (Below.refl B W).grown (grownBy_putObj' W l o') (by have := (Array.getElem?_eq_some_iff.1 h).1; omega) (fun k e => by cases e; omega)
  exact ⟨(cellsKept hB Bh h1).1, (cellsKept hB Bs h2).1⟩

set_option maxRecDepth 100000 in
set_option maxHeartbeats 2000000 in
theorem backward1_in (F : Fence) (n : Nat) (hF : F.fn 59) (hro : F.round = none) (hn : 1 ≤ n) (l Bs Bh : Nat) (z : Nat → Int) (J Jx : List (Fin 8) → World → Prop)
    (hY : ∀ pre x W, J pre W → pre.length < 8 → YieldAt F (n - 1) Try.prog l (pairB z x) W fun e W' =>
      (e = .returned (.bool true) ∧ J (pre ++ [x]) W' ∧ KeepB Bh Bs W W') ∨ (e = .returned (.bool false) ∧ Jx (pre ++ [x]) W'))
    (W : World) (hBs : W.cell? ⟨Bs, 0, none⟩ = some (.slice (some ⟨Bh, 0, none⟩) 8 8)) (hB : ∀ o : Nat, o < 8 → W.cell? ⟨Bh, o, none⟩ = some (.int .i32 (z o))) (h0 : J [] W) :
    CallsIn F n Try.prog 59 #[.func (.yield l) #[] #[], .pointer (some ⟨Bs, 0, none⟩)] W fun e W' => (∃ v, e = .returned v) ∧
      ((∃ ys, ys = dn 8 ∧ J ys W') ∨ (∃ pre, (∃ k, k ≤ 8 ∧ pre = dn k) ∧ Jx pre W')) := by
  have HB := Lib.hid hB
  clear hB
  refine callsIn_of_wp Try.func59 rfl hF ?_ hro
  simp only [Try.ntmps59, List.size_toArray, List.length_cons, List.length_nil, Nat.reduceAdd, Nat.reduceSub, Array.replicate_succ, Array.replicate_zero, List.push_toArray, List.append_toArray, List.nil_append, List.cons_append]
  gi_wp2
  have HS := Lib.hid hBs
  clear hBs
  gi_loopw [3] (fun i wr => ∃ k : Nat, k ≤ 8 ∧ i = .int .i64 (7 - (k : Int)) ∧ J (dn k) wr ∧ KeepB Bh Bs W wr) (fun i _ => (intOf i + 1).toNat)
  case atStart => exact ⟨0, Nat.zero_le _, rfl, h0, keepB_refl _ _ _⟩
  case round =>
    obtain ⟨k, hk, rfl, hJs, hKb⟩ := hrel
    by_cases hlt : k < 8
    · have hb1 : wr.cell? ⟨Bs, 0, none⟩ = some (.slice (some ⟨Bh, 0, none⟩) 8 8) := (hKb.2 0).trans HS.out
      have hb2 : wr.cell? ⟨Bh, 7 - k, none⟩ = some (.int .i32 (z (7 - k))) := (hKb.1 (7 - k)).trans (HB.out (7 - k) (by omega))
      have h7 : 7 - k < 8 := by omega
      have ek : ((7 - k : Nat) : Int) = 7 - (k : Int) := by omega
      have hl : (dn k).length < 8 := by rw [dn_length]; exact hlt
      obtain ⟨fn, tmps, assign, body, hy, hR⟩ := hY _ ⟨7 - k, h7⟩ wr hJs hl
      dsimp only [pairB] at hy
      rw [ek] at hy
      clear ek
      have HKB := Lib.hid hKb
      clear hKb
      have hge : 0 ≤ 7 - (k : Int) := by omega
      gi_wp2
      refine hR.mono ?_
      rintro e W3 (⟨rfl, hJ3, hk3⟩ | ⟨rfl, hJx3⟩)
      · gi_wp2
        go_roundw
        case rel => exact ⟨k + 1, by omega, by go_num, hJ3, keepB_t HKB.out hk3⟩
        case measure => simp [intOf]; omega
      · gi_wp2
        refine bodyPost_ret (results_none rfl _ _ _) rfl ?_
        exact ⟨⟨_, rfl⟩, .inr ⟨_, ⟨k + 1, by omega, rfl⟩, hJx3⟩⟩
    · obtain rfl : k = 8 := by omega
      gi_wp2
      go_end0
      exact ⟨⟨_, rfl⟩, .inl ⟨_, rfl, hJs⟩⟩

/-- The iterator's contract. -/
theorem backward_stops (F : Fence) (n : Nat) (hF : F.fn 59) (hro : F.round = none) (hn : 1 ≤ n) (Bs Bh : Nat) (z : Nat → Int) (w : World) (h1 : Bs < w.heap.size) (h2 : Bh < w.heap.size)
    (hc : w.cell? ⟨Bs, 0, none⟩ = some (.slice (some ⟨Bh, 0, none⟩) 8 8)) (hH : HeapAt w Bh 0 z) :
    SeqStopsK F n Try.prog 59 #[.pointer (some ⟨Bs, 0, none⟩)] (pairB z) (KeepB Bh Bs) (fun ys => ys = dn 8) (fun pre => ∃ k, k ≤ 8 ∧ pre = dn k) 8 w := fun l J Jx W hW _ _ hY h0 => by
  refine (backward1_in F n hF hro hn l Bs Bh z J Jx hY W (kept hW h1 hc) (fun o ho => by have := (hH.below hW h2) o ho; rwa [Nat.zero_add] at this) h0).mono ?_
  rintro e W' ⟨he, ⟨ys, rfl, hj⟩ | ⟨pre, hp, hj⟩⟩
  · exact ⟨he, .inl ⟨_, rfl, hj⟩⟩
  · exact ⟨he, .inr ⟨_, hp, hj⟩⟩

theorem backward_any (a : Option Addr) (len cap : Nat) (w : World) :
    Calls Try.prog 42 #[.slice a len cap] w fun e w' => e = .returned (.func (.func 59) #[] #[.pointer (some ⟨w.heap.size, 0, none⟩)]) ∧ w.alloc (.cells #[.slice a len cap] 63) = w' := by
  go_enter Try.func42, Try.ntmps42
  go_wp2
  go_ret
  exact ⟨rfl, rfl⟩
end Go.Proofs.Ytekejhnhkifcfaa
