/-
  No statement is proved here: quotients that are rounded down, as the program and as the document's own text reckon them, and what is asked of yarns and a number; conditions: the divisor is greater than 0, both are small; the errors lie where the text lays them.
-/
import Derived.Test.YtpkjogenkdckpaaDoorAsked
namespace Go.Proofs.YtpkjogenkdckpaaDoor
open Go.ChangeShapes Go.WideShapes Go.ChangeAt Go.RowKit

theorem down_eq (n d : Int) (hd : 0 < d) : (n.tmod d < 0 → n.tdiv d - 1 = n / d) ∧ (¬ n.tmod d < 0 → n.tdiv d = n / d) := by
  have h1 := Int.mul_tdiv_add_tmod n d
  have h2 := Int.tmod_lt_of_pos n hd
  have h3 : -d < n.tmod d := by
    have := Int.tmod_lt_of_pos (-n) hd
    rw [Int.neg_tmod] at this
    omega
  constructor
  · intro h
    exact ((Int.ediv_emod_unique hd (a := n) (q := n.tdiv d - 1) (r := n.tmod d + d)).2 ⟨by rw [Int.mul_sub]; omega, by omega, by omega⟩).1.symm
  · intro h
    exact ((Int.ediv_emod_unique hd (a := n) (q := n.tdiv d) (r := n.tmod d)).2 ⟨by omega, by omega, h2⟩).1.symm
theorem tdiv_small (n d : Int) (hn : -100000000 ≤ n ∧ n ≤ 100000000) : -100000000 ≤ n.tdiv d ∧ n.tdiv d ≤ 100000000 := by
  have e : (n.tdiv d).natAbs ≤ n.natAbs := by rw [Int.natAbs_tdiv]; exact Nat.div_le_self _ _
  omega

set_option maxHeartbeats 1000000 in
theorem floorDiv_any (n d : Int) (w : World) (hd : 0 < d) (hn : -100000000 ≤ n ∧ n ≤ 100000000) :
    Calls Tryd.prog 52 #[.int .i64 n, .int .i64 d] w fun e w' => e = .returned (.int .i64 (n / d)) ∧ w = w' := by
  obtain ⟨h1, h2⟩ := down_eq n d hd
  obtain ⟨b1, b2⟩ := tdiv_small n d hn
  have hz : (d == 0) = false := by rw [beq_eq_false_iff_ne]; omega
  have hq1 : IntKind.i64.wrap (n.tdiv d) = n.tdiv d := (IntWalk.i64_in _ (by omega)).trans (by omega)
  have hq2 : wrap64 (n.tdiv d) = n.tdiv d := (IntWalk.wrap64_in _ (by omega)).trans (by omega)
  by_cases h : n.tmod d < 0
  · have e := h1 h
    clear h1 h2 hn
    go_enter Tryd.func52, Tryd.ntmps52
    go_wp2
    go_ret
    exact ⟨rfl, rfl⟩
  · have e := h2 h
    clear h1 h2 hn
    go_enter Tryd.func52, Tryd.ntmps52
    go_wp2
    go_ret
    exact ⟨rfl, rfl⟩

set_option maxHeartbeats 1000000 in
theorem l03Down_any (n d : Int) (w : World) (hd : 0 < d) (hn : -100000000 ≤ n ∧ n ≤ 100000000) :
    Calls Tryd.prog 50 #[.int .i64 n, .int .i64 d] w fun e w' => e = .returned (.int .i64 (n / d)) ∧ w = w' := by
  obtain ⟨h1, h2⟩ := down_eq n d hd
  obtain ⟨b1, b2⟩ := tdiv_small n d hn
  have hz : (d == 0) = false := by rw [beq_eq_false_iff_ne]; omega
  have hq1 : IntKind.i64.wrap (n.tdiv d) = n.tdiv d := (IntWalk.i64_in _ (by omega)).trans (by omega)
  have hq2 : wrap64 (n.tdiv d) = n.tdiv d := (IntWalk.wrap64_in _ (by omega)).trans (by omega)
  by_cases h : n.tmod d < 0
  · have e := h1 h
    clear h1 h2 hn
    go_enter Tryd.func50, Tryd.ntmps50
    go_wp2
    go_ret
    exact ⟨rfl, rfl⟩
  · have e := h2 h
    clear h1 h2 hn
    go_enter Tryd.func50, Tryd.ntmps50
    go_wp2
    go_ret
    exact ⟨rfl, rfl⟩

set_option maxHeartbeats 1000000 in
theorem areRight_ex (l t g : Int) (w : World) (ht : -9223372036854775807 ≤ t ∧ t ≤ 9223372036854775807) :
    Calls Tryd.prog 47 #[.agg #[.int .i64 l, .int .i64 t, .int .i64 g]] w fun e w' => e = .returned (.bool (okR l t g)) ∧ w' = w.alloc (.cells #[.int .i64 l, .int .i64 t, .int .i64 g] 76) := by
  obtain ⟨s, hs⟩ : ∃ s : Int, s = (t.natAbs : Int) := ⟨_, rfl⟩
  have HS := Lib.hid fun wx => size_any t wx ht.1 ht.2
  rw [← hs] at HS
  by_cases h1 : 1 ≤ l
  · by_cases h2 : l ≤ 5000
    · by_cases h3 : s ≤ 2000
      · by_cases h4 : 1 ≤ g
        · by_cases h5 : g ≤ 2000
          · rw [okR_mk (by omega)]
            clear hs ht
            go_enter Tryd.func47, Tryd.ntmps47
            go_wp2_with (go_at_call 70; refine (HS.out _).mono ?_; rintro e w' ⟨rfl, rfl⟩)
            go_ret
            exact ⟨rfl, rfl⟩
          · rw [okR_mkno (by omega)]
            clear hs ht
            go_enter Tryd.func47, Tryd.ntmps47
            go_wp2_with (go_at_call 70; refine (HS.out _).mono ?_; rintro e w' ⟨rfl, rfl⟩)
            go_ret
            exact ⟨ret_bool (show decide (g ≤ 2000) = false from decide_eq_false (by omega)), rfl⟩
        · rw [okR_mkno (by omega)]
          clear hs ht
          go_enter Tryd.func47, Tryd.ntmps47
          go_wp2_with (go_at_call 70; refine (HS.out _).mono ?_; rintro e w' ⟨rfl, rfl⟩)
          go_ret
          exact ⟨rfl, rfl⟩
      · rw [okR_mkno (by omega)]
        clear hs ht
        go_enter Tryd.func47, Tryd.ntmps47
        go_wp2_with (go_at_call 70; refine (HS.out _).mono ?_; rintro e w' ⟨rfl, rfl⟩)
        go_ret
        exact ⟨rfl, rfl⟩
    · rw [okR_mkno (by omega)]
      clear hs ht HS
      go_enter Tryd.func47, Tryd.ntmps47
      go_wp2
      go_ret
      exact ⟨rfl, rfl⟩
  · rw [okR_mkno (by omega)]
    clear hs ht HS
    go_enter Tryd.func47, Tryd.ntmps47
    go_wp2
    go_ret
    exact ⟨rfl, rfl⟩

theorem mkYarn_ex (l t g : Int) (w : World) (h : okR l t g = true) :
    Calls Tryd.prog 48 #[.agg #[.int .i64 l, .int .i64 t, .int .i64 g]] w fun e w' => e = .returned (.agg #[.int .i16 l, .int .i16 t, .int .i16 g]) ∧ w' = (w.alloc (.cells #[.int .i64 l, .int .i64 t, .int .i64 g] 76)).alloc (.cells #[.int .i16 l, .int .i16 t, .int .i16 g] 25) := by
  obtain ⟨⟨h1, h2⟩, ⟨h3, h4⟩, h5, h6⟩ := okR_of h
  clear h
  go_enter Tryd.func48, Tryd.ntmps48
  go_wp2
  go_returns
  exact ⟨rfl, rfl⟩

def two2 {α : Type} (a b : α) : Nat → α
  | 0 => a
  | _ => b
theorem firstNo_two (a b : Bool) (i j : Nat) : firstNo (two2 a b) (two2 i j) 2 = if a = true then (if b = true then none else some j) else some i := by
  cases a <;> cases b <;> rfl
/-- The code of yarns and a number, however many there are. -/
def asked2 (a b : Bool) (i j : Int) : Int := if a = true then (if b = true then 0 else j) else i

/-- Yarns and a number. -/
theorem check2_any (p : Nat → Addr) (b cap : Nat) (x : Value) (ys : List Yn) (n lo hi : Int) (w : World) (hs : Sent w p) (hY : Yarns w x ys) (hn : ys.length ≤ 1048576)
    (c0 : w.cell? ⟨b, 0, none⟩ = some (.iface 82 x)) (c1 : w.cell? ⟨b, 1, none⟩ = some (.iface 71 (.agg #[.int .i64 n, .int .i64 lo, .int .i64 hi]))) :
    Calls Tryd.prog 44 #[.slice (some ⟨b, 0, none⟩) 2 cap] w fun e w' => e = .returned (errOf p (asked2 (allY ys) (inB n lo hi) 1 2)) ∧ Below w.heap.size w w' := by
  refine (check_any p b 0 2 cap (two2 (.iface 82 x) (.iface 71 (.agg #[.int .i64 n, .int .i64 lo, .int .i64 hi])))
    (two2 (allY ys) (inB n lo hi)) (two2 0 1) w hs (by omega) (by omega) (World.block_lt_of_cell? w _ c0) (fun j hj => ?_) (fun j hj => ?_)).mono fun e w' ⟨he, hw⟩ => ⟨?_, hw⟩
  · match j, hj with
    | 0, _ => simpa [two2] using c0
    | 1, _ => simpa [two2] using c1
  · match j, hj with
    | 0, _ => exact .inl ⟨x, ys, rfl, hY, hn, rfl, rfl⟩
    | 1, _ => exact .inr (.inl ⟨n, lo, hi, rfl, rfl, rfl⟩)
  · rw [he, firstNo_two]
    cases allY ys <;> cases inB n lo hi <;> rfl
/-- Two numbers. -/
theorem check2n_any (p : Nat → Addr) (b cap : Nat) (n lo hi n' lo' hi' : Int) (w : World) (hs : Sent w p)
    (c0 : w.cell? ⟨b, 0, none⟩ = some (.iface 71 (.agg #[.int .i64 n, .int .i64 lo, .int .i64 hi]))) (c1 : w.cell? ⟨b, 1, none⟩ = some (.iface 71 (.agg #[.int .i64 n', .int .i64 lo', .int .i64 hi']))) :
    Calls Tryd.prog 44 #[.slice (some ⟨b, 0, none⟩) 2 cap] w fun e w' => e = .returned (errOf p (asked2 (inB n lo hi) (inB n' lo' hi') 2 2)) ∧ Below w.heap.size w w' := by
  refine (check_any p b 0 2 cap (two2 (.iface 71 (.agg #[.int .i64 n, .int .i64 lo, .int .i64 hi])) (.iface 71 (.agg #[.int .i64 n', .int .i64 lo', .int .i64 hi'])))
    (two2 (inB n lo hi) (inB n' lo' hi')) (two2 1 1) w hs (by omega) (by omega) (World.block_lt_of_cell? w _ c0) (fun j hj => ?_) (fun j hj => ?_)).mono fun e w' ⟨he, hw⟩ => ⟨?_, hw⟩
  · match j, hj with
    | 0, _ => simpa [two2] using c0
    | 1, _ => simpa [two2] using c1
  · match j, hj with
    | 0, _ => exact .inr (.inl ⟨n, lo, hi, rfl, rfl, rfl⟩)
    | 1, _ => exact .inr (.inl ⟨n', lo', hi', rfl, rfl, rfl⟩)
  · rw [he, firstNo_two]
    cases inB n lo hi <;> cases inB n' lo' hi' <;> rfl
/-- Yarns, and how many. -/
theorem check2f_any (p : Nat → Addr) (b cap : Nat) (x : Value) (ys : List Yn) (w : World) (hs : Sent w p) (hY : Yarns w x ys) (hn : ys.length ≤ 1048576)
    (c0 : w.cell? ⟨b, 0, none⟩ = some (.iface 82 x)) (c1 : w.cell? ⟨b, 1, none⟩ = some (.iface 85 (.int .i64 ys.length))) :
    Calls Tryd.prog 44 #[.slice (some ⟨b, 0, none⟩) 2 cap] w fun e w' => e = .returned (errOf p (askedF ys true)) ∧ Below w.heap.size w w' := by
  refine (check_any p b 0 2 cap (two2 (.iface 82 x) (.iface 85 (.int .i64 ys.length)))
    (two2 (allY ys) (decide ((ys.length : Int) ≤ 10))) (two2 0 2) w hs (by omega) (by omega) (World.block_lt_of_cell? w _ c0) (fun j hj => ?_) (fun j hj => ?_)).mono fun e w' ⟨he, hw⟩ => ⟨?_, hw⟩
  · match j, hj with
    | 0, _ => simpa [two2] using c0
    | 1, _ => simpa [two2] using c1
  · match j, hj with
    | 0, _ => exact .inl ⟨x, ys, rfl, hY, hn, rfl, rfl⟩
    | 1, _ => exact .inr (.inr (.inr ⟨_, rfl, rfl, rfl⟩))
  · rw [he, firstNo_two]
    congr 1
    unfold askedF
    cases allY ys with
    | false => rfl
    | true =>
      by_cases h2 : ys.length ≤ 10
      · simp [h2, errV, errOf, show (ys.length : Int) ≤ 10 by omega]
      · simp [h2, errV, errOf, show ¬ (ys.length : Int) ≤ 10 by omega]
end Go.Proofs.YtpkjogenkdckpaaDoor
