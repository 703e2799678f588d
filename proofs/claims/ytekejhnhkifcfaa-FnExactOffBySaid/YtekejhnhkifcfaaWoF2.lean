/-
  No statement is proved here: withWool, where its work answers and where it panics with noWool; conditions as stated.
-/
import Derived.Test.YtekejhnhkifcfaaHeapX
import Derived.Tactics2
import Derived.Defers
import Derived.Recover
import Derived.Laws.Pointers
namespace Go.Proofs.Ytekejhnhkifcfaa
open Go.RowKit

set_option maxRecDepth 100000 in
theorem catchF2_panicking (p : Addr) (x : Int) (older : List PanicEntry) (w : World) (hc : w.cell? p = some (.int .i64 x)) (hz : w.frozen? p = false) (hp : p.block < w.heap.size) :
    CallsD Try.prog 62 #[.pointer (some p)] (.panicking ({ v := .iface 86 (.agg #[]), recovered := false } :: older)) w fun e u' w' =>
      e = .returned (.tuple #[]) ∧ u' = .panicking ({ v := .iface 86 (.agg #[]), recovered := true } :: older) ∧ w' = (w.alloc (.cells #[] 86)).setCell p (.int .i64 6) := by
  refine callsD_of_wpS Try.func62 rfl fun c₀ cs hu => ?_
  have h1 : ∀ wx : World, (binOp .eql 20 (.iface 86 (.agg #[])) .nilIface).run Try.prog wx = .ok (.bool false) wx := fun wx => by kernel_rfl
  have h2 : ∀ wx : World, (Instr.typeAssert (.iface 86 (.agg #[])) 20 86 true).run Try.prog wx = .ok (.tuple #[.agg #[], .bool true]) wx := fun wx => by kernel_rfl
  have hc2 : (w.alloc (.cells #[] 86)).cell? p = some (.int .i64 x) := (((Below.refl w.heap.size w).alloc (Nat.le_refl _) _).cell (p := p) hp).trans hc
  have hz2 : (w.alloc (.cells #[] 86)).frozen? p = false := (((Below.refl w.heap.size w).alloc (Nat.le_refl _) _).frozen (p := p) hp).trans hz
  apply wpS_seq
  apply wpS_region
  simp [wpOpsS, go_sem, recoverD, hu, Try.ntmps62, Exit.thenS]
  refine wpS_of_wp ?_
  go_wp2_with fail
  simp [bodyPostS, results, Try.results62]

set_option maxRecDepth 100000 in
theorem catchF2_idle (p : Addr) (w : World) :
    CallsD Try.prog 62 #[.pointer (some p)] .returning w fun e u' w' => e = .returned (.tuple #[]) ∧ u' = .returning ∧ w' = w := by
  refine callsD_of_wpS Try.func62 rfl fun c₀ cs hu => ?_
  have h1 : ∀ wx : World, (binOp .eql 20 .nilIface .nilIface).run Try.prog wx = .ok (.bool true) wx := fun wx => by kernel_rfl
  apply wpS_seq
  apply wpS_region
  simp [wpOpsS, go_sem, recoverD, hu, Try.ntmps62, Exit.thenS]
  refine wpS_of_wp ?_
  go_wp2_with fail
  cases c₀
  simp_all [bodyPostS, results, Try.results62]

set_option maxRecDepth 100000 in
set_option maxHeartbeats 2000000 in
theorem woolOffBy_yes (cap0 cap1 : Addr) (v0 v1 : Int) (w : World) (hk : ∀ wx, Below w.heap.size w wx → Calls Try.prog 56 #[.pointer (some cap0), .pointer (some cap1)] wx fun e w' => e = .returned (.agg #[.int .i64 v0, .int .i64 v1]) ∧ Below wx.heap.size wx w') :
    Calls Try.prog 45 #[.func (Fn.func 56) #[] #[.pointer (some cap0), .pointer (some cap1)]] w fun e w' => e = .returned (.tuple #[.agg #[.int .i64 v0, .int .i64 v1], .int .i64 0]) ∧ Below w.heap.size w w' := by
  have hmf : ∀ (fn : Fn) (first cap : Array Value) (w : World), (Instr.makeFunc fn first cap).run Try.prog w = .ok (.func fn first cap) w := fun _ _ _ _ => rfl
  have B0 : Below w.heap.size w ((w.alloc (.cells #[.int .i64 0, .int .i64 0] 38)).alloc (.cells #[.int .i64 0] 2)) := by go_grown
  have HK := Lib.hid (hk _ B0)
  have T0 := Lib.hid B0
  clear hk B0
  go_enter_defers Try.func45, Try.ntmps45
  go_wp2_with fail
  refine HK.out.mono ?_
  rintro e w1 ⟨rfl, hB⟩
  have B1 := Lib.hid (T0.out.trans (hB.mono T0.out.size))
  have c0 : w1.cell? ⟨w.heap.size, 0, none⟩ = some (.int .i64 0) := kept (b := w.heap.size) (o := 0) hB (by simp; omega) (by simp [go_sem])
  have c1 : w1.cell? ⟨w.heap.size, 1, none⟩ = some (.int .i64 0) := kept (b := w.heap.size) (o := 1) hB (by simp; omega) (by simp [go_sem])
  have f0 : w1.frozen? ⟨w.heap.size, 0, none⟩ = false := (hB.frozen (p := ⟨w.heap.size, 0, none⟩) (by simp; omega)).trans (by simp [go_sem])
  have f1 : w1.frozen? ⟨w.heap.size, 1, none⟩ = false := (hB.frozen (p := ⟨w.heap.size, 1, none⟩) (by simp; omega)).trans (by simp [go_sem])
  have d0 : w1.cell? ⟨w.heap.size + 1, 0, none⟩ = some (.int .i64 0) := kept (b := w.heap.size + 1) (o := 0) hB (by simp) (by simp [go_sem])
  have g0 : w1.frozen? ⟨w.heap.size + 1, 0, none⟩ = false := (hB.frozen (p := ⟨w.heap.size + 1, 0, none⟩) (by simp)).trans (by simp [go_sem])
  have L1 := Lib.hid (show w.heap.size + 1 < w1.heap.size from Nat.lt_of_lt_of_le (by simp) hB.size)
  clear hB HK T0
  go_wp2_with fail
  refine leaves_cons (f := 62) (args := #[.pointer (some ⟨w.heap.size + 1, 0, none⟩)]) (by simp) (by simp [go_sem]) ?_
  refine (catchF2_idle ⟨w.heap.size + 1, 0, none⟩ _).mono ?_
  rintro e u' w'' ⟨rfl, rfl, rfl⟩
  simp [Leaves, settle, results, Try.results45, go_sem, c0, c1, d0]
  exact ((B1.out.setCell (p := ⟨w.heap.size, 0, none⟩) (Nat.le_refl _) _).setCell (p := ⟨w.heap.size, 1, none⟩) (Nat.le_refl _) _).setCell (p := ⟨w.heap.size + 1, 0, none⟩) (Nat.le_succ _) _

set_option maxRecDepth 100000 in
set_option maxHeartbeats 2000000 in
theorem woolOffBy_no (cap0 cap1 : Addr) (w : World) (hk : ∀ wx, Below w.heap.size w wx → Calls Try.prog 56 #[.pointer (some cap0), .pointer (some cap1)] wx fun e w' => e = .panicked [{ v := .iface 86 (.agg #[]), recovered := false }] ∧ Below wx.heap.size wx w') :
    Calls Try.prog 45 #[.func (Fn.func 56) #[] #[.pointer (some cap0), .pointer (some cap1)]] w fun e w' => e = .returned (.tuple #[.agg #[.int .i64 0, .int .i64 0], .int .i64 6]) ∧ Below w.heap.size w w' := by
  have hmf : ∀ (fn : Fn) (first cap : Array Value) (w : World), (Instr.makeFunc fn first cap).run Try.prog w = .ok (.func fn first cap) w := fun _ _ _ _ => rfl
  have B0 : Below w.heap.size w ((w.alloc (.cells #[.int .i64 0, .int .i64 0] 38)).alloc (.cells #[.int .i64 0] 2)) := by go_grown
  have HK := Lib.hid (hk _ B0)
  have T0 := Lib.hid B0
  clear hk B0
  go_enter_defers Try.func45, Try.ntmps45
  go_wp2_with fail
  refine HK.out.mono ?_
  rintro e w1 ⟨rfl, hB⟩
  have B1 := Lib.hid (T0.out.trans (hB.mono T0.out.size))
  have c0 : w1.cell? ⟨w.heap.size, 0, none⟩ = some (.int .i64 0) := kept (b := w.heap.size) (o := 0) hB (by simp; omega) (by simp [go_sem])
  have c1 : w1.cell? ⟨w.heap.size, 1, none⟩ = some (.int .i64 0) := kept (b := w.heap.size) (o := 1) hB (by simp; omega) (by simp [go_sem])
  have f0 : w1.frozen? ⟨w.heap.size, 0, none⟩ = false := (hB.frozen (p := ⟨w.heap.size, 0, none⟩) (by simp; omega)).trans (by simp [go_sem])
  have f1 : w1.frozen? ⟨w.heap.size, 1, none⟩ = false := (hB.frozen (p := ⟨w.heap.size, 1, none⟩) (by simp; omega)).trans (by simp [go_sem])
  have d0 : w1.cell? ⟨w.heap.size + 1, 0, none⟩ = some (.int .i64 0) := kept (b := w.heap.size + 1) (o := 0) hB (by simp) (by simp [go_sem])
  have g0 : w1.frozen? ⟨w.heap.size + 1, 0, none⟩ = false := (hB.frozen (p := ⟨w.heap.size + 1, 0, none⟩) (by simp)).trans (by simp [go_sem])
  have L1 := Lib.hid (show w.heap.size + 1 < w1.heap.size from Nat.lt_of_lt_of_le (by simp) hB.size)
  clear hB HK T0
  go_wp2_with fail
  refine leaves_cons (f := 62) (args := #[.pointer (some ⟨w.heap.size + 1, 0, none⟩)]) (by simp) (by simp [go_sem]) ?_
  refine (catchF2_panicking ⟨w.heap.size + 1, 0, none⟩ 0 [] w1 d0 g0 L1.out).mono ?_
  rintro e u' w'' ⟨rfl, rfl, rfl⟩
  have A2 : Below w1.heap.size w1 (w1.alloc (.cells #[] 86)) := (Below.refl _ _).alloc (Nat.le_refl _) _
  have e0 := kept A2 (Nat.lt_trans (Nat.lt_succ_self _) L1.out) c0
  have e1 := kept A2 (Nat.lt_trans (Nat.lt_succ_self _) L1.out) c1
  have e9 := kept A2 L1.out d0
  simp [Leaves, settle, results, Try.results45, go_sem, e0, e1, e9]
  exact (B1.out.alloc B1.out.size _).setCell (p := ⟨w.heap.size + 1, 0, none⟩) (Nat.le_succ _) _

end Go.Proofs.Ytekejhnhkifcfaa
