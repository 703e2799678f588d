/-
  No statement is proved here: a move is tried, and undone where it cannot be, in the program; condition: numbers small enough.
-/
import Derived.Test.YtphinokacggnfaaOkP
import Derived.Test.YtphinokacggnfaaBring
import Derived.Defers
namespace Go.Proofs.Ytphinokacggnfaa
open Go.ChangeShapes Go.WideShapes Go.ChangeAt Go.RowKit

theorem unbring {f : Nat → Int} {p q : Nat} {g : Int} (hpq : p ≠ q) (j : Nat) : bringF (bringF f ((p : Int), (q : Int), g)) ((q : Int), (p : Int), g) j = f j := by
  rw [bringF_eq hpq, bringF_eq (fun e => hpq e.symm)]
  unfold putP
  by_cases h1 : j = p
  · subst h1
    rw [if_pos rfl, if_neg hpq, if_pos rfl]
    omega
  · by_cases h2 : j = q
    · subst h2
      rw [if_neg h1, if_pos rfl, if_pos rfl]
      omega
    · rw [if_neg h1, if_neg h2, if_neg h2, if_neg h1]
theorem undo_kept (pm pp pv : Addr) (u : FrameMode) (w : World) (h0 : w.cell? pm = some (.bool true)) :
    CallsD Try.prog 55 #[.pointer (some pm), .pointer (some pp), .pointer (some pv)] u w fun e u' w' => u' = u ∧ (e = .returned (.tuple #[]) ∧ w' = w) := by
  go_enter_d Try.func55, Try.ntmps55
  go_wp2
  go_end0
  exact ⟨rfl, rfl⟩
set_option maxHeartbeats 2000000 in
theorem undo_back (pm : Addr) (pb mb B : Nat) (f : Nat → Int) (p q : Nat) (g : Int) (u : FrameMode) (w : World) (h0 : w.cell? pm = some (.bool false)) (h1 : w.cell? ⟨pb, 0, none⟩ = some (.pointer (some ⟨B, 0, none⟩)))
    (m0 : w.cell? ⟨mb, 0, none⟩ = some (.int .i8 p)) (m1 : w.cell? ⟨mb, 1, none⟩ = some (.int .i8 q)) (m2 : w.cell? ⟨mb, 2, none⟩ = some (.int .i16 g))
    (h : Box5 w B f) (hp : p < 5) (hq : q < 5) (hpq : p ≠ q) (hg0 : 0 ≤ g) (hg1 : g ≤ 5000) (hin : Within f 100000000) :
    CallsD Try.prog 55 #[.pointer (some pm), .pointer (some ⟨pb, 0, none⟩), .pointer (some ⟨mb, 0, none⟩)] u w fun e u' w' => u' = u ∧ (e = .returned (.tuple #[]) ∧ Box5 w' B (bringF f ((q : Int), (p : Int), g)) ∧ w.grownBy w' (some B)) := by
  have HC := Lib.hid (bring_any B f q p g w h hq hp (fun e => hpq e.symm) hg0 hg1 hin)
  go_enter_d Try.func55, Try.ntmps55
  go_wp2_with fail
  refine HC.out.mono ?_
  rintro e w2 ⟨rfl, hx, hg⟩
  have X := Lib.hid hx
  have G := Lib.hid hg
  clear hx hg
  go_wp2_with fail
  go_end0
  exact ⟨rfl, X.out, G.out⟩

set_option maxRecDepth 100000 in
set_option maxHeartbeats 4000000 in
theorem try_any (B : Nat) (f : Nat → Int) (p q : Nat) (g : Int) (w : World) (h : Box5 w B f) (hp : p < 5) (hq : q < 5) (hpq : p ≠ q) (hg0 : 0 ≤ g) (hg1 : g ≤ 5000) (hin : Within f 10000000) :
    Calls Try.prog 54 #[.pointer (some ⟨B, 0, none⟩), .agg #[.int .i8 p, .int .i8 q, .int .i16 g]] w fun e w' => e = .returned (.bool (okP (bringF f ((p : Int), (q : Int), g)))) ∧ Box5 w' B (if okP (bringF f ((p : Int), (q : Int), g)) = true then bringF f ((p : Int), (q : Int), g) else f) ∧ w.grownBy w' (some B) := by
  have hmf : ∀ (fn : Fn) (first cap : Array Value) (w : World), (Instr.makeFunc fn first cap).run Try.prog w = .ok (.func fn first cap) w := fun _ _ _ _ => rfl
  have hlt := h.lt
  obtain ⟨W0, hW0⟩ : ∃ W0, W0 = ((w.alloc (.cells #[.pointer (some ⟨B, 0, none⟩)] 63)).alloc (.cells #[.int .i8 p, .int .i8 q, .int .i16 g] 53)).alloc (.cells #[.bool false] 4) := ⟨_, rfl⟩
  have al : Below w.heap.size w W0 := by rw [hW0]; go_grown
  have G0 : w.grownBy W0 (some B) := by rw [hW0]; exact grown_tr (grown_tr (World.grownBy_alloc _ _ _) (World.grownBy_alloc _ _ _)) (World.grownBy_alloc _ _ _)
  have X0 := h.below al
  have c0 : W0.cell? ⟨w.heap.size, 0, none⟩ = some (.pointer (some ⟨B, 0, none⟩)) := by rw [hW0]; simp [go_sem]
  have m0 : W0.cell? ⟨w.heap.size + 1, 0, none⟩ = some (.int .i8 p) := by rw [hW0]; simp [go_sem]
  have m1 : W0.cell? ⟨w.heap.size + 1, 1, none⟩ = some (.int .i8 q) := by rw [hW0]; simp [go_sem]
  have m2 : W0.cell? ⟨w.heap.size + 1, 2, none⟩ = some (.int .i16 g) := by rw [hW0]; simp [go_sem]
  have b0 : W0.cell? ⟨w.heap.size + 2, 0, none⟩ = some (.bool false) := by rw [hW0]; simp [go_sem]
  have bf : W0.frozen? ⟨w.heap.size + 2, 0, none⟩ = false := by rw [hW0]; simp [go_sem]
  have hz : W0.heap.size = w.heap.size + 3 := by rw [hW0]; simp
  have HC := Lib.hid (bring_any B f p q g W0 X0 hp hq hpq hg0 hg1 (hin.mono (by omega)))
  have HUN := Lib.hid (unbring (f := f) (g := g) hpq)
  have hin2 : Within (bringF f ((p : Int), (q : Int), g)) 100000000 := by
    rw [bringF_eq hpq]
    have i1 := hin p
    have i2 := hin q
    exact putP_in (putP_in (hin.mono (by omega)) p (by omega)) q (by omega)
  generalize hF : bringF f ((p : Int), (q : Int), g) = F at *
  have HIN := Lib.hid hin2
  have HW0 := Lib.hid hW0
  have HCS := Lib.hid (And.intro c0 (And.intro m0 (And.intro m1 (And.intro m2 (And.intro b0 bf)))))
  have HZ := Lib.hid hz
  have HG0 := Lib.hid G0
  have HB0 := Lib.hid al
  clear hin hin2 h X0 hW0 hF m0 m1 m2 b0 bf hz G0 al c0
  obtain ⟨FR, hFR⟩ : ∃ FR, FR = (if okP F = true then F else f) := ⟨_, rfl⟩
  rw [← hFR]
  have HFR := Lib.hid hFR
  clear hFR
  go_enter_defers Try.func54, Try.ntmps54
  go_wp2_with fail
  rw [← HW0.out]
  refine HC.out.mono ?_
  rintro e w1 ⟨rfl, hx, hg⟩
  obtain ⟨c0, m0, m1, m2, b0, bf⟩ := HCS.out
  have hne : ∀ d : Nat, some (w.heap.size + d) ≠ some B := fun d e => by have := Option.some.inj e; omega
  have c0' := hg.cell c0 (hne 0)
  have m0' := hg.cell m0 (hne 1)
  have m1' := hg.cell m1 (hne 1)
  have m2' := hg.cell m2 (hne 1)
  have b0' := hg.cell b0 (hne 2)
  have bf' := (World.frozen?_of_block (w := W0) (a := ⟨w.heap.size + 2, 0, none⟩) (hg.block _ (by have := HZ.out; simp only; omega) (hne 2))).trans bf
  have hz1 : w.heap.size + 3 ≤ w1.heap.size := by have := HZ.out; have := hg.size; omega
  have HG1 := Lib.hid (grown_tr HG0.out hg)
  have HX1 := Lib.hid hx
  have HCS1 := Lib.hid (And.intro c0' (And.intro m0' (And.intro m1' (And.intro m2' (And.intro b0' bf')))))
  have HZ1 := Lib.hid hz1
  have p0 := hx.1 0 (by omega)
  have p1 := hx.1 1 (by omega)
  have p2 := hx.1 2 (by omega)
  have p3 := hx.1 3 (by omega)
  have p4 := hx.1 4 (by omega)
  have HV := Lib.hid (areValid_any F w1)
  unfold pval at HV
  clear hx hg m0 m1 m2 b0 bf c0 m0' m1' m2' b0' bf' hz1 HC HCS
  go_wp2_with fail
  refine HV.out.mono ?_
  rintro e w2 ⟨rfl, hB⟩
  clear p0 p1 p2 p3 p4 c0'
  obtain ⟨c0, m0, m1, m2, b0, bf⟩ := HCS1.out
  have hz1 := HZ1.out
  have c0 := (hB.cell (p := ⟨w.heap.size, 0, none⟩) (by simp only; omega)).trans c0
  have m0 := (hB.cell (p := ⟨w.heap.size + 1, 0, none⟩) (by simp only; omega)).trans m0
  have m1 := (hB.cell (p := ⟨w.heap.size + 1, 1, none⟩) (by simp only; omega)).trans m1
  have m2 := (hB.cell (p := ⟨w.heap.size + 1, 2, none⟩) (by simp only; omega)).trans m2
  have b0 : w2.cell? ⟨w.heap.size + 1 + 1, 0, none⟩ = some (.bool false) := (hB.cell (p := ⟨w.heap.size + 2, 0, none⟩) (by simp only; omega)).trans b0
  have bf : w2.frozen? ⟨w.heap.size + 1 + 1, 0, none⟩ = false := (hB.frozen (p := ⟨w.heap.size + 2, 0, none⟩) (by simp only; omega)).trans bf
  have X2 := HX1.out.below hB
  have G2 := grown_tr HG1.out (⟨hB.os, hB.tape, hB.output, hB.size, fun i hi _ => hB.block i hi⟩ : w1.grownBy w2 (some B))
  have X3 := Lib.hid (X2.far (C := w.heap.size + 1 + 1) (by omega) 0 (.bool (okP F)))
  have G3 := Lib.hid (show w.grownBy (w2.setCell ⟨w.heap.size + 1 + 1, 0, none⟩ (.bool (okP F))) (some B) from
    ⟨G2.os, G2.tape, G2.output, by have := G2.size; simpa using this, fun i hi hne => (Below.heap_setCell _ _ _ i (by simp only; omega)).trans (G2.block i hi hne)⟩)
  have far : ∀ (b o : Nat) (v : Value), b ≠ w.heap.size + 1 + 1 → w2.cell? ⟨b, o, none⟩ = some v → (w2.setCell ⟨w.heap.size + 1 + 1, 0, none⟩ (.bool (okP F))).cell? ⟨b, o, none⟩ = some v := fun b o v hb hc =>
    (World.cell?_setCell_other _ _ _ _ (by intro e; exact hb (congrArg Addr.block e).symm)).trans hc
  have C3 := Lib.hid (far _ _ _ (by omega) c0)
  have M0 := Lib.hid (far _ _ _ (by omega) m0)
  have M1 := Lib.hid (far _ _ _ (by omega) m1)
  have M2 := Lib.hid (far _ _ _ (by omega) m2)
  have BB := Lib.hid (World.cell?_setCell_same w2 ⟨w.heap.size + 1 + 1, 0, none⟩ (Value.bool (okP F)) b0)
  clear far c0 m0 m1 m2 hz1 hB X2 G2
  generalize hr : okP F = r at *
  have HR := Lib.hid hr
  clear hr
  cases r with
  | true =>
    go_wp2_with fail
    refine leaves_cons (f := 55) (args := #[.pointer (some ⟨w.heap.size + 1 + 1, 0, none⟩), .pointer (some ⟨w.heap.size, 0, none⟩), .pointer (some ⟨w.heap.size + 1, 0, none⟩)]) (by simp) (by simp [go_sem]) ?_
    refine (undo_kept _ _ _ .returning _ BB.out).mono ?_
    rintro e u' w'' ⟨rfl, rfl, rfl⟩
    have X := X3.out
    have G := G3.out
    have C := BB.out
    refine ⟨.bool true, ?_, by rw [HR.out], ?_, G⟩
    · simp [results, go_sem, C, Try.f54]
    · rw [HFR.out]
      simpa using X
  | false =>
    go_wp2_with fail
    refine leaves_cons (f := 55) (args := #[.pointer (some ⟨w.heap.size + 1 + 1, 0, none⟩), .pointer (some ⟨w.heap.size, 0, none⟩), .pointer (some ⟨w.heap.size + 1, 0, none⟩)]) (by simp) (by simp [go_sem]) ?_
    refine (undo_back _ _ _ B F p q g .returning _ BB.out C3.out M0.out M1.out M2.out X3.out hp hq hpq hg0 hg1 HIN.out).mono ?_
    rintro e u' w'' ⟨rfl, rfl, hx, hg⟩
    have X := hx.eq fun j _ => HUN.out j
    have C := hg.cell BB.out (by intro e; have := Option.some.inj e; simp only at this; omega)
    have G := grown_tr G3.out hg
    refine ⟨.bool false, ?_, by rw [HR.out], ?_, G⟩
    · simp [results, go_sem, C, Try.f54]
    · rw [HFR.out]
      simpa using X
end Go.Proofs.Ytphinokacggnfaa
