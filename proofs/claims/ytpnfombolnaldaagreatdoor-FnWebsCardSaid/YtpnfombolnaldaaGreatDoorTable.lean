/-
  No statement is proved here: the table of passes that the program lays; condition: none.
-/
import Derived.Test.YtpnfombolnaldaaGreatDoorCard
import Derived.Maps.RangeRun
import Derived.Maps.AppendAt
import Derived.Laws.EntriesVeiled
namespace Go.Proofs.YtpnfombolnaldaaGreatDoor
open Go.ChangeShapes Go.WideShapes Go.ChangeAt Go.RowKit
open Go.ChangeMaps (setBlock)

theorem findKey_u8 {P : Program} {w : World} {K : TypeId} {es : Array MapEntry} {key : Value} {r : Option (Nat × Value)} (hK : P.underlying K = some (.int .u8)) (hf : Instr.findNow (.int .u8) key es.toList 0 = some r) :
    (Instr.findKey K key es.toList).run P w = .ok r w := by
  simp [Instr.findKey, run_underlying hK, hf]
theorem setObj_map {P : Program} {w : World} {B : Nat} {es : Array MapEntry} {clk : Nat} (hb : w.heap[B]? = some (.map es clk)) (o : Obj) : (setObj B o).run P w = .ok () (setBlock w B o) := by
  simp [setObj, Sem.run, hb, setBlock]
theorem setBlock_grown {w : World} {B : Nat} {o : Obj} : w.grownBy (setBlock w B o) (some B) ∧ (setBlock w B o).heap.size = w.heap.size := by
  refine ⟨⟨rfl, rfl, rfl, by simp [setBlock], fun k hk hne => ?_⟩, by simp [setBlock]⟩
  have : B ≠ k := fun e => hne (by rw [e])
  simp [setBlock, this]
theorem setBlock_at {w : World} {B : Nat} {o x : Obj} (hb : w.heap[B]? = some x) : (setBlock w B o).heap[B]? = some o := by
  have : B < w.heap.size := (Array.getElem?_eq_some_iff.1 hb).1
  simp [setBlock, this]
/-- A key that is not there is laid into the map. -/
theorem upd_new {P : Program} {w : World} {T K E : TypeId} {B : Nat} {es : Array MapEntry} {clk : Nat} {val : Value} {n : Int} (hT : P.underlying T = some (.map K E)) (hK : P.underlying K = some (.int .u8))
    (hb : w.heap[B]? = some (.map es clk)) (hf : Instr.findNow (.int .u8) (.int .u8 n) es.toList 0 = some none) :
    (Instr.mapUpdate T (.map (some B)) (.int .u8 n) val).run P w = .ok () (setBlock w B (.map (es.push ⟨.int .u8 n, val, clk⟩) (clk + 1))) := by
  simp only [Instr.mapUpdate, Sem.run_bind, run_underlying hT, Result.andThen, MapKept.run_getObj_map hb, MapKept.run_checkKey hK (show MapKept.IsKey (.int .u8) (.int .u8 n) from rfl), findKey_u8 hK hf, setObj_map hb]

/-- A store of a new key. -/
theorem upd_ex {P : Program} {w : World} {T K E : TypeId} {B : Nat} {es : Array MapEntry} {clk : Nat} (n : Int) (val : Value) (hT : P.underlying T = some (.map K E)) (hK : P.underlying K = some (.int .u8))
    (hb : w.heap[B]? = some (.map es clk)) (hf : Instr.findNow (.int .u8) (.int .u8 n) es.toList 0 = some none) :
    ∃ w', (Instr.mapUpdate T (.map (some B)) (.int .u8 n) val).run P w = .ok () w' ∧ w'.heap[B]? = some (.map (es.push ⟨.int .u8 n, val, clk⟩) (clk + 1)) ∧ w.grownBy w' (some B) ∧ w'.heap.size = w.heap.size := by
  have h1 := setBlock_grown (w := w) (B := B) (o := .map (es.push ⟨.int .u8 n, val, clk⟩) (clk + 1))
  exact ⟨_, upd_new (E := E) (val := val) hT hK hb hf, setBlock_at hb, h1.1, h1.2⟩

/-- The two ways to lay a web double, as the literal has them. -/
def E99 : MapEntry := ⟨.int .u8 99, .func (Fn.func 53) #[] #[], 0⟩
def E102 : MapEntry := ⟨.int .u8 102, .func (Fn.func 51) #[] #[], 1⟩
def EE : Array MapEntry := #[E99, E102]
theorem left0 : (leftOf EE #[]).toList = [E99, E102] := by simp [leftOf, EE, E99, E102]
theorem left1 : (leftOf EE #[0]).toList = [E102] := by simp [leftOf, EE, E99, E102]
theorem left2 : (leftOf EE #[1]).toList = [E99] := by simp [leftOf, EE, E99, E102]
theorem left3 : (leftOf EE #[0, 1]).size = 0 := by simp [leftOf, EE, E99, E102]
theorem left4 : (leftOf EE #[1, 0]).size = 0 := by simp [leftOf, EE, E99, E102]

/-- The range's step: nothing is left, or an entry that is left comes out. -/
theorem next_ex {P : Program} {w : World} (ty : TypeId) {r bm : Nat} {seen : Array Nat} (hr : w.heap[r]? = some (.mapIter (some bm) 2 seen 2)) (hb : w.heap[bm]? = some (.map EE 2)) (hne : bm ≠ r) :
    ((leftOf EE seen).size = 0 ∧ (Instr.next (.pointer (some ⟨r, 0, none⟩)) false ty).run P w = .ok (.tuple #[.bool false]) w) ∨
    ∃ e ∈ (leftOf EE seen).toList, ∃ w', (Instr.next (.pointer (some ⟨r, 0, none⟩)) false ty).run P w = .ok (.tuple #[.bool true, e.key, e.val]) w' ∧ w'.heap[r]? = some (.mapIter (some bm) 2 (seen.push e.born) 2) ∧ w.grownBy w' (some r) ∧ w'.heap.size = w.heap.size ∧
      (Instr.entry (.pointer (some ⟨r, 0, none⟩))).run P w' = .ok (.tuple #[e.key, e.val]) w' := by
  have hold : ∀ x ∈ EE.toList, x.born < 2 := by
    intro x hx
    have : x = E99 ∨ x = E102 := by simpa [EE] using hx
    rcases this with rfl | rfl <;> decide
  rcases run_next_at (P := P) w ty r bm 2 2 seen EE 2 hr hb hold (Nat.le_refl _) with ⟨h0, hrun⟩ | ⟨e, he, w1, hw1, hrun⟩
  · exact .inl ⟨h0, hrun⟩
  · have hr1 : w1.heap[r]? = some (.mapIter (some bm) 2 seen 2) := by rcases hw1 with rfl | rfl <;> exact hr
    have hb1 : w1.heap[bm]? = some (.map EE 2) := by rcases hw1 with rfl | rfl <;> exact hb
    have h1 := setBlock_grown (w := w1) (B := r) (o := .mapIter (some bm) 2 (seen.push e.born) 2)
    have hg1 : w.grownBy (setBlock w1 r (.mapIter (some bm) 2 (seen.push e.born) 2)) (some r) ∧ (setBlock w1 r (.mapIter (some bm) 2 (seen.push e.born) 2)).heap.size = w.heap.size := by
      rcases hw1 with rfl | rfl
      · exact h1
      · exact ⟨⟨h1.1.os, h1.1.tape, h1.1.output, h1.1.size, h1.1.block⟩, h1.2⟩
    have hlt : bm < w1.heap.size := (Array.getElem?_eq_some_iff.1 hb1).1
    have hmem : e ∈ EE.toList := by
      have := he
      simp only [leftOf, Array.toList_filter, List.mem_filter] at this
      exact this.1
    have hen := run_entry_at (P := P) (setBlock w1 r (.mapIter (some bm) 2 (seen.push e.born) 2)) r bm 2 seen EE 2 e (setBlock_at hr1) ((h1.1.block bm hlt (by simpa using hne)).trans hb1) hmem (by decide)
    exact .inr ⟨e, he, _, hrun, setBlock_at hr1, hg1.1, hg1.2, hen⟩

/-- A table of passes: what is found at each letter. -/
def Tbl (w : World) (v : Value) (p : Int) : Prop := ∃ (b1 bp bc bf : Nat) (es : Array MapEntry) (clk : Nat), v = .map (some b1) ∧ w.heap[b1]? = some (.map es clk) ∧
  (∃ i, Instr.findNow (.int .u8) (.int .u8 114) es.toList 0 = some (some (i, .func (Fn.func 70) #[] #[]))) ∧
  (∃ i, Instr.findNow (.int .u8) (.int .u8 99) es.toList 0 = some (some (i, .func (Fn.func 71) #[] #[.pointer (some ⟨bc, 0, none⟩), .pointer (some ⟨bp, 0, none⟩)]))) ∧
  (∃ i, Instr.findNow (.int .u8) (.int .u8 102) es.toList 0 = some (some (i, .func (Fn.func 71) #[] #[.pointer (some ⟨bf, 0, none⟩), .pointer (some ⟨bp, 0, none⟩)]))) ∧
  (∀ n : Int, n ≠ 114 → n ≠ 99 → n ≠ 102 → Instr.findNow (.int .u8) (.int .u8 n) es.toList 0 = some none) ∧
  w.cell? ⟨bp, 0, none⟩ = some (.int .i64 p) ∧ w.cell? ⟨bc, 0, none⟩ = some (.func (Fn.func 53) #[] #[]) ∧ w.cell? ⟨bf, 0, none⟩ = some (.func (Fn.func 51) #[] #[]) ∧
  b1 < w.heap.size ∧ bp < w.heap.size ∧ bc < w.heap.size ∧ bf < w.heap.size
theorem Tbl.below {w w' : World} {v : Value} {p : Int} (h : Tbl w v p) (hB : Below w.heap.size w w') : Tbl w' v p := by
  obtain ⟨b1, bp, bc, bf, es, clk, rfl, h1, h2, h3, h4, h5, h6, h7, h8, l1, l2, l3, l4⟩ := h
  have hs := hB.size
  exact ⟨b1, bp, bc, bf, es, clk, rfl, (hB.block b1 l1).trans h1, h2, h3, h4, h5, kept hB l2 h6, kept hB l3 h7, kept hB l4 h8, by omega, by omega, by omega, by omega⟩

/-- What lies in memory while the table is laid. -/
def GS (w W : World) (p : Int) (b1 b2 r : Nat) (seen : Array Nat) (es : Array MapEntry) (clk : Nat) : Prop :=
  W.heap[r]? = some (.mapIter (some b2) 2 seen 2) ∧ W.heap[b2]? = some (.map EE 2) ∧ W.heap[b1]? = some (.map es clk) ∧ W.cell? ⟨w.heap.size, 0, none⟩ = some (.int .i64 p) ∧ Below w.heap.size w W ∧
  (w.heap.size < b1 ∧ b1 < b2 ∧ b2 < r ∧ r < W.heap.size)
theorem GS.next {w W W' : World} {p : Int} {b1 b2 r : Nat} {seen seen' : Array Nat} {es : Array MapEntry} {clk : Nat} (h : GS w W p b1 b2 r seen es clk)
    (hi : W'.heap[r]? = some (.mapIter (some b2) 2 seen' 2)) (hg : W.grownBy W' (some r)) (hs : W'.heap.size = W.heap.size) : GS w W' p b1 b2 r seen' es clk := by
  obtain ⟨h1, h2, h3, h4, h5, l1, l2, l3, l4⟩ := h
  have e2 : some b2 ≠ some r := fun e => by cases e; omega
  have e3 : some b1 ≠ some r := fun e => by cases e; omega
  have e4 : some w.heap.size ≠ some r := fun e => by have := Option.some.inj e; omega
  exact ⟨hi, (hg.block b2 (by omega) e2).trans h2, (hg.block b1 (by omega) e3).trans h3, hg.cell h4 e4, h5.grown hg h5.size (fun k e => by cases e; omega), l1, l2, l3, by omega⟩
theorem GS.upd {w W W' : World} {p : Int} {b1 b2 r : Nat} {seen : Array Nat} {es es' : Array MapEntry} {clk clk' : Nat} (h : GS w W p b1 b2 r seen es clk)
    (hi : W'.heap[b1]? = some (.map es' clk')) (hg : W.grownBy W' (some b1)) (hs : W'.heap.size = W.heap.size) : GS w W' p b1 b2 r seen es' clk' := by
  obtain ⟨h1, h2, h3, h4, h5, l1, l2, l3, l4⟩ := h
  have e2 : some b2 ≠ some b1 := fun e => by cases e; omega
  have e3 : some r ≠ some b1 := fun e => by cases e; omega
  have e4 : some w.heap.size ≠ some b1 := fun e => by have := Option.some.inj e; omega
  exact ⟨(hg.block r (by omega) e3).trans h1, (hg.block b2 (by omega) e2).trans h2, hi, hg.cell h4 e4, h5.grown hg h5.size (fun k e => by cases e; omega), l1, l2, l3, by omega⟩
theorem GS.alloc {w W : World} {p : Int} {b1 b2 r : Nat} {seen : Array Nat} {es : Array MapEntry} {clk : Nat} (h : GS w W p b1 b2 r seen es clk) (o : Obj) : GS w (W.alloc o) p b1 b2 r seen es clk := by
  obtain ⟨h1, h2, h3, h4, h5, l1, l2, l3, l4⟩ := h
  have hs : (W.alloc o).heap.size = W.heap.size + 1 := by simp
  have hB : Below W.heap.size W (W.alloc o) := (Below.refl _ _).alloc (Nat.le_refl _) o
  exact ⟨(heap_alloc_old W o (by omega)).trans h1, (heap_alloc_old W o (by omega)).trans h2, (heap_alloc_old W o (by omega)).trans h3, kept hB (by omega) h4, h5.alloc h5.size o, l1, l2, l3, by omega⟩
/-- A new cell beside what lies there, and what is kept of it. -/
theorem newCell (W : World) (v : Value) (t : TypeId) : (W.alloc (.cells #[v] t)).cell? ⟨W.heap.size, 0, none⟩ = some v := by simp
theorem alloc_two (w : World) (o o' : Obj) : ((w.alloc o).alloc o').heap[w.heap.size + 1]? = some o' := by
  have h := heap_alloc_new (w.alloc o) o'
  rw [show (w.alloc o).heap.size = w.heap.size + 1 by simp] at h
  exact h
theorem notIn {seen : Array Nat} {P : Prop} {L : List MapEntry} (h0 : (leftOf EE seen).size = 0) (hl : (leftOf EE seen).toList = L) (hL : L ≠ []) : P := by
  exfalso
  apply hL
  rw [← hl]
  exact List.length_eq_zero_iff.1 (by simpa using h0)

set_option maxRecDepth 100000 in
set_option maxHeartbeats 4000000 in
theorem cardings_any (p : Int) (w : World) :
    Calls Tryz.prog 38 #[.int .i64 p] w fun e w' => ∃ v, e = .returned v ∧ Tbl w' v p ∧ Below w.heap.size w w' := by
  have hmm := @run_makeMap Tryz.prog
  go_enter Tryz.func38, Tryz.ntmps38
  go_wp2_with fail
  obtain ⟨w2, hrun, hm1, hg1, hs1⟩ := upd_ex (P := Tryz.prog) (w := (w.alloc (.cells #[.int .i64 p] 2)).alloc (.map #[] 0)) (B := w.heap.size + 1) (es := #[]) (clk := 0) 114 (.func (Fn.func 70) #[] #[]) Tryz.underlying58 Tryz.underlying5 (alloc_two _ _ _) rfl
  rw [hrun]
  have sz1 : w2.heap.size = w.heap.size + 2 := by rw [hs1]; simp
  have hc1 : w2.cell? ⟨w.heap.size, 0, none⟩ = some (.int .i64 p) := hg1.cell (by simp) (by simp)
  have T1 : Below w.heap.size w w2 := (((Below.refl w.heap.size w).alloc (Nat.le_refl _) _).alloc (by simp) _).grown hg1 (by simp; omega) (fun k e => by cases e; omega)
  have SZ1 := Lib.hid sz1
  clear hg1 hs1 hrun sz1
  go_wp2_with fail
  obtain ⟨w3, hrun, hm2, hg2, hs2⟩ := upd_ex (P := Tryz.prog) (w := w2.alloc (.map #[] 0)) (B := w2.heap.size) (es := #[]) (clk := 0) 99 (.func (Fn.func 53) #[] #[]) Tryz.underlying92 Tryz.underlying5 (heap_alloc_new _ _) rfl
  rw [hrun]
  clear hrun
  go_wp2_with fail
  obtain ⟨w4, hrun, hm3, hg3, hs3⟩ := upd_ex (P := Tryz.prog) (w := w3) (B := w2.heap.size) 102 (.func (Fn.func 51) #[] #[]) Tryz.underlying92 Tryz.underlying5 hm2 rfl
  rw [hrun]
  have sz1 := SZ1.out
  have sz4 : w4.heap.size = w.heap.size + 3 := by rw [hs3, hs2]; simp; omega
  have hE : w4.heap[w2.heap.size]? = some (.map EE 2) := hm3
  have hB4 : w2.grownBy w4 none := by
    have g2 : (w2.alloc (.map #[] 0)).grownBy w4 (some w2.heap.size) := hg2.trans hg3
    exact ⟨g2.os, g2.tape, g2.output, by omega, fun k hk _ => (g2.block k (by simp; omega) (fun e => by cases e; omega)).trans (heap_alloc_old _ _ hk)⟩
  have hm4 := (hB4.block (w.heap.size + 1) (by omega) (by simp)).trans hm1
  have hc4 := hB4.cell hc1 (by simp)
  have T4 := T1.grown hB4 T1.size (fun k e => by cases e)
  have hrg := run_range_map (P := Tryz.prog) w4 92 _ _ w2.heap.size EE 2 Tryz.underlying92 hE
  have G5 : GS w (w4.alloc (.mapIter (some w2.heap.size) 2 #[] 2)) p (w.heap.size + 1) w2.heap.size w4.heap.size #[] _ _ :=
    ⟨heap_alloc_new _ _, (heap_alloc_old _ _ (by omega)).trans hE, (heap_alloc_old _ _ (by omega)).trans hm4, kept ((Below.refl w4.heap.size w4).alloc (Nat.le_refl _) _) (by omega) hc4, T4.alloc T4.size _, by omega, by omega, by omega, by simp⟩
  have H5 := Lib.hid G5
  have hlt := G5.2.2.2.2.2
  clear hm1 hm2 hm3 hm4 hg2 hs2 hg3 hs3 hc1 hc4 T1 T4 hB4 hE sz1 sz4 G5 hrun SZ1 hlt
  go_wp2_with fail
  clear hrg
  generalize w4.alloc (.mapIter (some w2.heap.size) 2 #[] 2) = w5 at H5 ⊢
  obtain ⟨b2, hb2⟩ : ∃ b2, b2 = w2.heap.size := ⟨_, rfl⟩
  obtain ⟨r, hr⟩ : ∃ r, r = w4.heap.size := ⟨_, rfl⟩
  rw [← hr, ← hb2] at H5
  have hlt := H5.out.2.2.2.2.2
  rw [← hr]
  clear hr hb2
  refine wp_loop_rounds 3 ?_
  rw [rounds_succ]
  go_wp2_with fail
  rcases next_ex (P := Tryz.prog) 0 H5.out.1 H5.out.2.1 (by omega) with ⟨h0, hrun⟩ | ⟨e, he, w6, hrun, hi, hg, hs, hen⟩
  · exact notIn h0 left0 (by simp)
  rw [hrun]
  rw [left0] at he
  rcases List.mem_cons.1 he with rfl | he
  · have G6 := Lib.hid (H5.out.next hi hg hs)
    have hen2 : (Instr.entry (.pointer (some ⟨r, 0, none⟩))).run Tryz.prog w6 = .ok (.tuple #[.int .u8 99, .func (Fn.func 53) #[] #[]]) w6 := hen
    clear H5 hi hg hs hen he hrun
    go_wp2_with fail
    obtain ⟨w7, hrun, hm, hg, hs⟩ := upd_ex (P := Tryz.prog) (w := w6.alloc (.cells #[.func (Fn.func 53) #[] #[]] 61)) (B := w.heap.size + 1) 99 (.func (Fn.func 71) #[] #[.pointer (some ⟨w6.heap.size, 0, none⟩), .pointer (some ⟨w.heap.size, 0, none⟩)]) Tryz.underlying58 Tryz.underlying5 (G6.out.alloc _).2.2.1 rfl
    rw [hrun]
    have C7 := Lib.hid (hg.cell (newCell w6 (.func (Fn.func 53) #[] #[]) 61) (fun e => by have h := G6.out.2.2.2.2.2; have := Option.some.inj e; simp at this; omega))
    have G7 := Lib.hid ((G6.out.alloc _).upd hm hg hs)
    have Z7 := Lib.hid (show r < w6.heap.size ∧ w6.heap.size < w7.heap.size from ⟨G6.out.2.2.2.2.2.2.2.2, by rw [hs]; simp⟩)
    clear G6 hm hg hs hrun hen2
    go_wp2_with fail
    rw [rounds_succ]
    go_wp2_with fail
    rcases next_ex (P := Tryz.prog) 0 G7.out.1 G7.out.2.1 (by omega) with ⟨h0, hrun⟩ | ⟨e, he, w8, hrun, hi, hg, hs, hen⟩
    · exact notIn h0 left1 (by simp)
    rw [hrun]
    rw [show (#[].push (E99 : MapEntry).born : Array Nat) = #[0] from rfl, left1] at he
    obtain rfl := List.mem_singleton.1 he
    have G8 := Lib.hid (G7.out.next hi hg hs)
    have C8 := Lib.hid (hg.cell C7.out (fun e => by have h := Z7.out; have := Option.some.inj e; simp at this; omega))
    have Z8 := Lib.hid (show r < w6.heap.size ∧ w6.heap.size < w8.heap.size by rw [hs]; exact Z7.out)
    have hen2 : (Instr.entry (.pointer (some ⟨r, 0, none⟩))).run Tryz.prog w8 = .ok (.tuple #[.int .u8 102, .func (Fn.func 51) #[] #[]]) w8 := hen
    clear G7 C7 Z7 hi hg hs hen he hrun
    go_wp2_with fail
    obtain ⟨w9, hrun, hm, hg, hs⟩ := upd_ex (P := Tryz.prog) (w := w8.alloc (.cells #[.func (Fn.func 51) #[] #[]] 61)) (B := w.heap.size + 1) 102 (.func (Fn.func 71) #[] #[.pointer (some ⟨w8.heap.size, 0, none⟩), .pointer (some ⟨w.heap.size, 0, none⟩)]) Tryz.underlying58 Tryz.underlying5 (G8.out.alloc _).2.2.1 rfl
    rw [hrun]
    have C9 := Lib.hid (hg.cell (kept ((Below.refl w8.heap.size w8).alloc (Nat.le_refl _) _) Z8.out.2 C8.out) (fun e => by have h := G8.out.2.2.2.2.2; have h' := Z8.out; have := Option.some.inj e; simp at this; omega))
    have D9 := Lib.hid (hg.cell (newCell w8 (.func (Fn.func 51) #[] #[]) 61) (fun e => by have h := G8.out.2.2.2.2.2; have := Option.some.inj e; simp at this; omega))
    have G9 := Lib.hid ((G8.out.alloc _).upd hm hg hs)
    have Z9 := Lib.hid (show w6.heap.size < w9.heap.size ∧ w8.heap.size < w9.heap.size from ⟨by have := Z8.out; rw [hs]; simp; omega, by rw [hs]; simp⟩)
    clear G8 C8 Z8 hm hg hs hrun hen2
    go_wp2_with fail
    rw [rounds_succ]
    go_wp2_with fail
    rcases next_ex (P := Tryz.prog) 0 G9.out.1 G9.out.2.1 (by omega) with ⟨h0, hrun⟩ | ⟨e, he, w10, hrun, hi, hg, hs, hen⟩
    · rw [hrun]
      clear hrun
      go_wp2_with fail
      go_ret
      have hG := G9.out
      have hz9 := hG.2.2.2.2.2
      exact ⟨_, rfl, ⟨w.heap.size + 1, w.heap.size, w6.heap.size, w8.heap.size, _, _, rfl, hG.2.2.1, ⟨0, rfl⟩, ⟨1, rfl⟩, ⟨2, rfl⟩, fun n h1 h2 h3 => by
        have y1 := beq_eq_false_iff_ne.2 h1
        have y2 := beq_eq_false_iff_ne.2 h2
        have y3 := beq_eq_false_iff_ne.2 h3
        simp [Instr.findNow, Instr.sameNow, y1, y2, y3], hG.2.2.2.1, C9.out, D9.out, by omega, by omega, Z9.out.1, Z9.out.2⟩, hG.2.2.2.2.1⟩
    · exfalso
      have h0 := left3
      have h1 : (leftOf EE #[0, 1]).toList = [] := List.length_eq_zero_iff.1 (by simpa using h0)
      have he2 : e ∈ (leftOf EE #[0, 1]).toList := he
      rw [h1] at he2
      cases he2
  · obtain rfl := List.mem_singleton.1 he
    have G6 := Lib.hid (H5.out.next hi hg hs)
    have hen2 : (Instr.entry (.pointer (some ⟨r, 0, none⟩))).run Tryz.prog w6 = .ok (.tuple #[.int .u8 102, .func (Fn.func 51) #[] #[]]) w6 := hen
    clear H5 hi hg hs hen he hrun
    go_wp2_with fail
    obtain ⟨w7, hrun, hm, hg, hs⟩ := upd_ex (P := Tryz.prog) (w := w6.alloc (.cells #[.func (Fn.func 51) #[] #[]] 61)) (B := w.heap.size + 1) 102 (.func (Fn.func 71) #[] #[.pointer (some ⟨w6.heap.size, 0, none⟩), .pointer (some ⟨w.heap.size, 0, none⟩)]) Tryz.underlying58 Tryz.underlying5 (G6.out.alloc _).2.2.1 rfl
    rw [hrun]
    have C7 := Lib.hid (hg.cell (newCell w6 (.func (Fn.func 51) #[] #[]) 61) (fun e => by have h := G6.out.2.2.2.2.2; have := Option.some.inj e; simp at this; omega))
    have G7 := Lib.hid ((G6.out.alloc _).upd hm hg hs)
    have Z7 := Lib.hid (show r < w6.heap.size ∧ w6.heap.size < w7.heap.size from ⟨G6.out.2.2.2.2.2.2.2.2, by rw [hs]; simp⟩)
    clear G6 hm hg hs hrun hen2
    go_wp2_with fail
    rw [rounds_succ]
    go_wp2_with fail
    rcases next_ex (P := Tryz.prog) 0 G7.out.1 G7.out.2.1 (by omega) with ⟨h0, hrun⟩ | ⟨e, he, w8, hrun, hi, hg, hs, hen⟩
    · exact notIn h0 left2 (by simp)
    rw [hrun]
    rw [show (#[].push (E102 : MapEntry).born : Array Nat) = #[1] from rfl, left2] at he
    obtain rfl := List.mem_singleton.1 he
    have G8 := Lib.hid (G7.out.next hi hg hs)
    have C8 := Lib.hid (hg.cell C7.out (fun e => by have h := Z7.out; have := Option.some.inj e; simp at this; omega))
    have Z8 := Lib.hid (show r < w6.heap.size ∧ w6.heap.size < w8.heap.size by rw [hs]; exact Z7.out)
    have hen2 : (Instr.entry (.pointer (some ⟨r, 0, none⟩))).run Tryz.prog w8 = .ok (.tuple #[.int .u8 99, .func (Fn.func 53) #[] #[]]) w8 := hen
    clear G7 C7 Z7 hi hg hs hen he hrun
    go_wp2_with fail
    obtain ⟨w9, hrun, hm, hg, hs⟩ := upd_ex (P := Tryz.prog) (w := w8.alloc (.cells #[.func (Fn.func 53) #[] #[]] 61)) (B := w.heap.size + 1) 99 (.func (Fn.func 71) #[] #[.pointer (some ⟨w8.heap.size, 0, none⟩), .pointer (some ⟨w.heap.size, 0, none⟩)]) Tryz.underlying58 Tryz.underlying5 (G8.out.alloc _).2.2.1 rfl
    rw [hrun]
    have C9 := Lib.hid (hg.cell (kept ((Below.refl w8.heap.size w8).alloc (Nat.le_refl _) _) Z8.out.2 C8.out) (fun e => by have h := G8.out.2.2.2.2.2; have h' := Z8.out; have := Option.some.inj e; simp at this; omega))
    have D9 := Lib.hid (hg.cell (newCell w8 (.func (Fn.func 53) #[] #[]) 61) (fun e => by have h := G8.out.2.2.2.2.2; have := Option.some.inj e; simp at this; omega))
    have G9 := Lib.hid ((G8.out.alloc _).upd hm hg hs)
    have Z9 := Lib.hid (show w6.heap.size < w9.heap.size ∧ w8.heap.size < w9.heap.size from ⟨by have := Z8.out; rw [hs]; simp; omega, by rw [hs]; simp⟩)
    clear G8 C8 Z8 hm hg hs hrun hen2
    go_wp2_with fail
    rw [rounds_succ]
    go_wp2_with fail
    rcases next_ex (P := Tryz.prog) 0 G9.out.1 G9.out.2.1 (by omega) with ⟨h0, hrun⟩ | ⟨e, he, w10, hrun, hi, hg, hs, hen⟩
    · rw [hrun]
      clear hrun
      go_wp2_with fail
      go_ret
      have hG := G9.out
      have hz9 := hG.2.2.2.2.2
      exact ⟨_, rfl, ⟨w.heap.size + 1, w.heap.size, w8.heap.size, w6.heap.size, _, _, rfl, hG.2.2.1, ⟨0, rfl⟩, ⟨2, rfl⟩, ⟨1, rfl⟩, fun n h1 h2 h3 => by
        have y1 := beq_eq_false_iff_ne.2 h1
        have y2 := beq_eq_false_iff_ne.2 h2
        have y3 := beq_eq_false_iff_ne.2 h3
        simp [Instr.findNow, Instr.sameNow, y1, y2, y3], hG.2.2.2.1, D9.out, C9.out, by omega, by omega, Z9.out.2, Z9.out.1⟩, hG.2.2.2.2.1⟩
    · exfalso
      have h0 := left4
      have h1 : (leftOf EE #[1, 0]).toList = [] := List.length_eq_zero_iff.1 (by simpa using h0)
      have he2 : e ∈ (leftOf EE #[1, 0]).toList := he
      rw [h1] at he2
      cases he2
end Go.Proofs.YtpnfombolnaldaaGreatDoor
