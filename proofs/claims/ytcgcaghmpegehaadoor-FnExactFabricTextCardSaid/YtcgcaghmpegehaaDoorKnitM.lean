/-
  No statement is proved here: the program's table of stitches, and what it says of a row; condition: rows of at most 1048576 bytes.
-/
import Derived.Test.YtcgcaghmpegehaaDoorKnit
import Derived.Maps.RangeRun
import Derived.Maps.AppendAt
import Derived.Laws.EntriesVeiled
import Derived.Laws.RangeAny
import Derived.Lib.OthersKept
namespace Go.Proofs.YtcgcaghmpegehaaDoor
open Go.ChangeShapes Go.WideShapes Go.ChangeAt Go.RowKit
open Go.ChangeMaps (setBlock)

theorem findKey_i32 {P : Program} {w : World} {K : TypeId} {es : Array MapEntry} {key : Value} {r : Option (Nat × Value)} (hK : P.underlying K = some (.int .i32)) (hf : Instr.findNow (.int .i32) key es.toList 0 = some r) :
    (Instr.findKey K key es.toList).run P w = .ok r w := by
  simp [Instr.findKey, run_underlying hK, hf]
theorem setObj_map {P : Program} {w : World} {B : Nat} {es : Array MapEntry} {clk : Nat} (hb : w.heap[B]? = some (.map es clk)) (o : Obj) : (setObj B o).run P w = .ok () (setBlock w B o) := by
  simp [setObj, Sem.run, hb, setBlock]
theorem setBlock_grown {w : World} {B : Nat} {o : Obj} : w.grownBy (setBlock w B o) (some B) ∧ (setBlock w B o).heap.size = w.heap.size := by
  refine ⟨⟨rfl, rfl, rfl, by simp [setBlock], fun k hk hne => ?_⟩, by simp [setBlock]⟩
  have : B ≠ k := fun e => hne (by rw [e])
  simp [setBlock, this]
theorem setBlock_at {w : World} {B : Nat} {o x : Obj} (hb : w.heap[B]? = some x) : (setBlock w B o).heap[B]? = some o := by
  have : B < w.heap.size := (Array.getElem?_eq_some_iff.1 hb).1
  simp [setBlock, this]
/-- A store of a new key. -/
theorem upd32 {P : Program} {w : World} {T K E : TypeId} {B : Nat} {es : Array MapEntry} {clk : Nat} (n : Int) (val : Value) (hT : P.underlying T = some (.map K E)) (hK : P.underlying K = some (.int .i32))
    (hb : w.heap[B]? = some (.map es clk)) (hf : Instr.findNow (.int .i32) (.int .i32 n) es.toList 0 = some none) :
    ∃ w', (Instr.mapUpdate T (.map (some B)) (.int .i32 n) val).run P w = .ok () w' ∧ w'.heap[B]? = some (.map (es.push ⟨.int .i32 n, val, clk⟩) (clk + 1)) ∧ w.grownBy w' (some B) ∧ w'.heap.size = w.heap.size := by
  have h1 := setBlock_grown (w := w) (B := B) (o := .map (es.push ⟨.int .i32 n, val, clk⟩) (clk + 1))
  refine ⟨setBlock w B (.map (es.push ⟨.int .i32 n, val, clk⟩) (clk + 1)), ?_, setBlock_at hb, h1.1, h1.2⟩
  simp only [Instr.mapUpdate, Sem.run_bind, run_underlying hT, Result.andThen, MapKept.run_getObj_map hb, MapKept.run_checkKey hK (show MapKept.IsKey (.int .i32) (.int .i32 n) from rfl), findKey_i32 hK hf, setObj_map hb]
theorem look32_yes {P : Program} {w : World} {T K E : TypeId} {B : Nat} {es : Array MapEntry} {clk : Nat} {n : Int} {i : Nat} {val : Value} (hT : P.underlying T = some (.map K E)) (hK : P.underlying K = some (.int .i32))
    (hb : w.heap[B]? = some (.map es clk)) (hf : Instr.findNow (.int .i32) (.int .i32 n) es.toList 0 = some (some (i, val))) :
    (Instr.lookup T (.map (some B)) (.int .i32 n) true).run P w = .ok (.tuple #[val, .bool true]) w ∧ (Instr.lookup T (.map (some B)) (.int .i32 n) false).run P w = .ok val w := by
  constructor <;> simp [Instr.lookup, run_underlying hT, Result.andThen, MapKept.run_getObj_map hb, MapKept.run_checkKey hK (show MapKept.IsKey (.int .i32) (.int .i32 n) from rfl), findKey_i32 hK hf]
theorem look32_no {P : Program} {w : World} {T K E : TypeId} {B : Nat} {es : Array MapEntry} {clk : Nat} {n : Int} {z : Value} (hT : P.underlying T = some (.map K E)) (hK : P.underlying K = some (.int .i32))
    (hz : (zeroValue E).run P w = .ok z w)
    (hb : w.heap[B]? = some (.map es clk)) (hf : Instr.findNow (.int .i32) (.int .i32 n) es.toList 0 = some none) :
    (Instr.lookup T (.map (some B)) (.int .i32 n) true).run P w = .ok (.tuple #[z, .bool false]) w := by
  simp [Instr.lookup, run_underlying hT, Result.andThen, MapKept.run_getObj_map hb, MapKept.run_checkKey hK (show MapKept.IsKey (.int .i32) (.int .i32 n) from rfl), findKey_i32 hK hf, hz]

/-- A stitch as the program has it, and its table. -/
def stv (a b c : Int) : Value := .agg #[.int .i64 a, .int .i64 b, .int .i64 c]
def ES : Array MapEntry := #[⟨.int .i32 107, stv 1 1 3, 0⟩, ⟨.int .i32 100, stv 2 1 4, 1⟩, ⟨.int .i32 105, stv 1 2 6, 2⟩, ⟨.int .i32 111, stv 0 1 4, 3⟩, ⟨.int .i32 98, stv 1 0 5, 4⟩]
theorem findES {b : Nat} (h : isSt b = true) : ∃ i, Instr.findNow (.int .i32) (.int .i32 (b : Int)) ES.toList 0 = some (some (i, stv (tk b) (mk b) (nd b))) := by
  rcases isSt_cases h with rfl | rfl | rfl | rfl | rfl
  · exact ⟨0, rfl⟩
  · exact ⟨2, rfl⟩
  · exact ⟨4, rfl⟩
  · exact ⟨1, rfl⟩
  · exact ⟨3, rfl⟩
theorem findES_no {x : Int} (h1 : x ≠ 107) (h2 : x ≠ 105) (h3 : x ≠ 98) (h4 : x ≠ 100) (h5 : x ≠ 111) : Instr.findNow (.int .i32) (.int .i32 x) ES.toList 0 = some none := by
  have y1 : (x == 107) = false := by rw [beq_eq_false_iff_ne]; exact h1
  have y2 : (x == 105) = false := by rw [beq_eq_false_iff_ne]; exact h2
  have y3 : (x == 98) = false := by rw [beq_eq_false_iff_ne]; exact h3
  have y4 : (x == 100) = false := by rw [beq_eq_false_iff_ne]; exact h4
  have y5 : (x == 111) = false := by rw [beq_eq_false_iff_ne]; exact h5
  simp [ES, Instr.findNow, Instr.sameNow, y1, y2, y3, y4, y5]
theorem zeroSt (w : World) : (zeroValue 70).run Tryd.prog w = .ok (stv 0 0 0) w := by kernel_rfl

set_option maxRecDepth 100000 in
set_option maxHeartbeats 2000000 in
theorem stitches_any (w : World) :
    Calls Tryd.prog 41 #[] w fun e w' => ∃ b, e = .returned (.map (some b)) ∧ w'.heap[b]? = some (.map ES 5) ∧ Below w.heap.size w w' ∧ w.heap.size ≤ b := by
  have hmm := @run_makeMap Tryd.prog
  go_enter Tryd.func41, Tryd.ntmps41
  go_wp2_with fail
  obtain ⟨w2, hrun, hm2, hg2, hs2⟩ := upd32 (P := Tryd.prog) (w := w.alloc (.map #[] 0)) (B := w.heap.size) (es := #[]) (clk := 0) 107 (stv 1 1 3) Tryd.underlying85 Tryd.underlying21 (heap_alloc_new _ _) rfl
  unfold stv at hrun
  rw [hrun]
  clear hrun
  go_wp2_with fail
  obtain ⟨w3, hrun, hm3, hg3, hs3⟩ := upd32 (P := Tryd.prog) (w := w2) (B := w.heap.size) 100 (stv 2 1 4) Tryd.underlying85 Tryd.underlying21 hm2 rfl
  unfold stv at hrun
  rw [hrun]
  clear hrun
  go_wp2_with fail
  obtain ⟨w4, hrun, hm4, hg4, hs4⟩ := upd32 (P := Tryd.prog) (w := w3) (B := w.heap.size) 105 (stv 1 2 6) Tryd.underlying85 Tryd.underlying21 hm3 rfl
  unfold stv at hrun
  rw [hrun]
  clear hrun
  go_wp2_with fail
  obtain ⟨w5, hrun, hm5, hg5, hs5⟩ := upd32 (P := Tryd.prog) (w := w4) (B := w.heap.size) 111 (stv 0 1 4) Tryd.underlying85 Tryd.underlying21 hm4 rfl
  unfold stv at hrun
  rw [hrun]
  clear hrun
  go_wp2_with fail
  obtain ⟨w6, hrun, hm6, hg6, hs6⟩ := upd32 (P := Tryd.prog) (w := w5) (B := w.heap.size) 98 (stv 1 0 5) Tryd.underlying85 Tryd.underlying21 hm5 rfl
  unfold stv at hrun
  rw [hrun]
  clear hrun
  have g := (((hg2.trans hg3).trans hg4).trans hg5).trans hg6
  have T : Hid (Below w.heap.size w w6) := ((Below.refl w.heap.size w).alloc (Nat.le_refl _) _).grown g (by simp) (fun k e => by cases e; exact Nat.le_refl _)
  have M : Hid (w6.heap[w.heap.size]? = some (.map ES 5)) := hm6
  clear hm2 hm3 hm4 hm5 hm6 hg2 hg3 hg4 hg5 hg6 hs2 hs3 hs4 hs5 hs6 g
  go_wp2
  go_ret
  exact ⟨_, rfl, M.out, T.out, Nat.le_refl _⟩

/-- What lies in memory while a row is gone through: the table, and where the row's letters are. -/
def IW (w wr : World) (b r : Nat) (s : ByteArray) (k : Nat) : Prop := wr.heap[b]? = some (.map ES 5) ∧ wr.heap[r]? = some (.stringIter s k) ∧ Below w.heap.size w wr ∧ w.heap.size ≤ b ∧ b < r ∧ r < wr.heap.size
theorem IW.start {w w1 : World} {b : Nat} {s : ByteArray} (hm : w1.heap[b]? = some (.map ES 5)) (hB : Below w.heap.size w w1) (hb : w.heap.size ≤ b) : IW w (w1.iter s 0) b w1.heap.size s 0 := by
  have hlt := lt_of_block hm
  exact ⟨(heap_alloc_old w1 _ hlt).trans hm, heap_alloc_new w1 _, hB.alloc hB.size _, hb, hlt, by simp [World.iter]⟩
theorem IW.alloc {w wr : World} {b r : Nat} {s : ByteArray} {k : Nat} (h : IW w wr b r s k) (o : Obj) : IW w (wr.alloc o) b r s k := by
  obtain ⟨h1, h2, h3, h4, h5, h6⟩ := h
  exact ⟨(heap_alloc_old wr _ (by omega)).trans h1, (heap_alloc_old wr _ h6).trans h2, h3.alloc h3.size _, h4, h5, by simp; omega⟩
theorem IW.below {w wr w' : World} {b r : Nat} {s : ByteArray} {k : Nat} (h : IW w wr b r s k) (hB : Below wr.heap.size wr w') : IW w w' b r s k := by
  obtain ⟨h1, h2, h3, h4, h5, h6⟩ := h
  have hs := hB.size
  exact ⟨(hB.block b (by omega)).trans h1, (hB.block r h6).trans h2, h3.trans (hB.mono h3.size), h4, h5, by omega⟩
theorem IW.pos {w wr : World} {b r : Nat} {s : ByteArray} {k : Nat} (h : IW w wr b r s k) : wr.iterPos r = k := by
  unfold World.iterPos
  rw [h.2.1]
/-- The next letter, if it is a stitch. -/
theorem IW.next {w wr : World} {b r : Nat} {s : ByteArray} {k : Nat} (h : IW w wr b r s k) (hk : k < s.size) (hs : isSt (chAt s k) = true) :
    ∃ w2, (∀ ty, (Instr.next (.pointer (some ⟨r, 0, none⟩)) true ty).run Tryd.prog wr = .ok (.tuple #[.bool true, .int .i64 k, .int .i32 (chAt s k : Nat)]) w2) ∧ IW w w2 b r s (k + 1) := by
  have ha : (s[k]'hk).toNat < 128 := by
    rw [chAt_get]
    rcases isSt_cases hs with e | e | e | e | e <;> omega
  have hd := decode_ascii s k hk ha
  refine ⟨wr.iterAt r s (k + 1), fun ty => ?_, ?_⟩
  · rw [Go.Lib.run_next_any_at wr r s k ty h.2.1 hk, hd, chAt_get]
  · obtain ⟨h1, h2, h3, h4, h5, h6⟩ := h
    exact ⟨(Go.Lib.iterAt_other wr r b s _ (by omega)).trans h1, Go.Lib.iterAt_heap wr r s k _ h2, Go.Lib.below_iterAt h3 (by omega) s _, h4, h5, by rw [Go.Lib.iterAt_size]; exact h6⟩
/-- The next letter, if it is no stitch. -/
theorem IW.next_no {w wr : World} {b r : Nat} {s : ByteArray} {k : Nat} (h : IW w wr b r s k) (hk : k < s.size) (hs : isSt (chAt s k) = false) :
    ∃ (w2 : World) (x : Int) (k2 : Nat), (∀ ty, (Instr.next (.pointer (some ⟨r, 0, none⟩)) true ty).run Tryd.prog wr = .ok (.tuple #[.bool true, .int .i64 k, .int .i32 x]) w2) ∧ IW w w2 b r s k2 ∧ (x ≠ 107 ∧ x ≠ 105 ∧ x ≠ 98 ∧ x ≠ 100 ∧ x ≠ 111) := by
  refine ⟨wr.iterAt r s (k + (Utf8.decode s k).2), ((Utf8.decode s k).1 : Nat), k + (Utf8.decode s k).2, fun ty => Go.Lib.run_next_any_at wr r s k ty h.2.1 hk, ?_, ?_⟩
  · obtain ⟨h1, h2, h3, h4, h5, h6⟩ := h
    exact ⟨(Go.Lib.iterAt_other wr r b s _ (by omega)).trans h1, Go.Lib.iterAt_heap wr r s k _ h2, Go.Lib.below_iterAt h3 (by omega) s _, h4, h5, by rw [Go.Lib.iterAt_size]; exact h6⟩
  · by_cases ha : (s[k]'hk).toNat < 128
    · rw [decode_ascii s k hk ha]
      have := isSt_no hs
      rw [← chAt_get s k hk] at this
      simp only
      omega
    · have := (decode_high s k hk (by omega)).1
      omega
theorem IW.stop {w wr : World} {b r : Nat} {s : ByteArray} {k : Nat} (h : IW w wr b r s k) (hk : ¬ k < s.size) :
    ∀ ty, (Instr.next (.pointer (some ⟨r, 0, none⟩)) true ty).run Tryd.prog wr = .ok (.tuple #[.bool false]) wr := fun ty => Go.Lib.run_next_end_at wr r s k ty h.2.1 hk
theorem IW.look {w wr : World} {b r : Nat} {s : ByteArray} {k x : Nat} (h : IW w wr b r s k) (hs : isSt x = true) :
    (Instr.lookup 85 (.map (some b)) (.int .i32 (x : Int)) true).run Tryd.prog wr = .ok (.tuple #[stv (tk x) (mk x) (nd x), .bool true]) wr ∧
    (Instr.lookup 85 (.map (some b)) (.int .i32 (x : Int)) false).run Tryd.prog wr = .ok (stv (tk x) (mk x) (nd x)) wr := by
  obtain ⟨i, hf⟩ := findES hs
  exact look32_yes Tryd.underlying85 Tryd.underlying21 h.1 hf
theorem IW.look_no {w wr : World} {b r : Nat} {s : ByteArray} {k : Nat} {x : Int} (h : IW w wr b r s k) (hx : x ≠ 107 ∧ x ≠ 105 ∧ x ≠ 98 ∧ x ≠ 100 ∧ x ≠ 111) :
    (Instr.lookup 85 (.map (some b)) (.int .i32 x) true).run Tryd.prog wr = .ok (.tuple #[stv 0 0 0, .bool false]) wr :=
  look32_no Tryd.underlying85 Tryd.underlying21 (zeroSt wr) h.1 (findES_no hx.1 hx.2.1 hx.2.2.1 hx.2.2.2.1 hx.2.2.2.2)

set_option maxRecDepth 100000 in
set_option maxHeartbeats 4000000 in
theorem areSt_any (s : ByteArray) (w : World) :
    Calls Tryd.prog 39 #[.string s] w fun e w' => e = .returned (.bool (allSt s)) ∧ Below w.heap.size w w' := by
  have HY := Lib.hid fun (h : ∀ j, j < s.size → isSt (chAt s j) = true) => show allSt s = true from allK_all h
  have HN := Lib.hid fun k (hk : k < s.size) (h : isSt (chAt s k) = false) => show allSt s = false from allK_no hk h
  generalize allSt s = R at *
  go_enter Tryd.func39, Tryd.ntmps39
  go_wp2_with fail
  refine (stitches_any _).mono ?_
  rintro e w1 ⟨b, rfl, hm, hB, hb⟩
  have H0 := Lib.hid (IW.start (s := s) hm hB hb)
  clear hm hB hb
  go_wp2_with fail
  generalize w1.iter s 0 = w2 at *
  generalize w1.heap.size = r at *
  go_loopw [] (fun wr => ∃ k : Nat, k ≤ s.size ∧ Hid (IW w wr b r s k) ∧ Hid (∀ j, j < k → isSt (chAt s j) = true)) (fun wr => s.size - wr.iterPos r)
  case atStart => exact ⟨0, Nat.zero_le _, H0, fun j hj => absurd hj (Nat.not_lt_zero j)⟩
  case round =>
    obtain ⟨k, hk, hI, hA⟩ := hrel
    by_cases hlt : k < s.size
    · cases hst : isSt (chAt s k) with
      | true =>
        obtain ⟨w3, hnx, hI2⟩ := hI.out.next hlt hst
        have hlk := (hI2.look hst).1
        have hps := Lib.hid hI.out.pos
        have I2 := Lib.hid hI2
        have HA2 : Hid (∀ j, j < k + 1 → isSt (chAt s j) = true) := fun j hj => by
          by_cases e : j = k
          · subst e; exact hst
          · exact hA.out j (by omega)
        clear hI hI2 hst
        generalize chAt s k = x at *
        unfold stv at hlk
        go_wp2
        go_roundw
        case rel => exact ⟨k + 1, by omega, Lib.hid (I2.out.alloc _), HA2⟩
        case measure =>
          rw [(I2.out.alloc _).pos, hps.out]
          omega
      | false =>
        obtain ⟨w3, x, k2, hnx, hI2, hx⟩ := hI.out.next_no hlt hst
        have hlk := hI2.look_no hx
        have I2 := Lib.hid hI2
        have HR := Lib.hid (HN.out k hlt hst)
        clear hI hI2 hst hx
        unfold stv at hlk
        go_wp2
        go_ret
        exact ⟨ret_bool HR.out.symm, (I2.out.alloc _).2.2.1⟩
    · have hkn : k = s.size := by omega
      have hnx := hI.out.stop hlt
      have HR := Lib.hid (HY.out (by rw [← hkn]; exact hA.out))
      go_wp2
      go_ret
      exact ⟨ret_bool HR.out.symm, hI.out.2.2.1⟩

theorem takes_st (a b c : Int) (w : World) :
    Calls Tryd.prog 40 #[.agg #[.int .i64 a, .int .i64 b, .int .i64 c]] w fun e w' => e = .returned (.int .i64 a) ∧ Below w.heap.size w w' := by
  go_enter Tryd.func40, Tryd.ntmps40
  go_wp2
  go_ret
  exact ⟨rfl, by go_grown⟩

set_option maxRecDepth 100000 in
set_option maxHeartbeats 4000000 in
theorem takes_total (s : ByteArray) (w : World) (h : allSt s = true) (hs : s.size ≤ 1048576) :
    Calls Tryd.prog 31 #[.string s, .func (Fn.func 40) #[] #[]] w fun e w' => e = .returned (.int .i64 (takesF s)) ∧ Below w.heap.size w w' := by
  have HA := Lib.hid fun k (hk : k < s.size) => allK_get h hk
  have HB := Lib.hid fun k (hk : k ≤ s.size) => show 0 ≤ sumB tk s k ∧ sumB tk s k ≤ 6 * k from by
    have := sum_bd (f := tk) (s := s) (hi := 6) (k := k) fun j hj => by
      have := tk_bd (allK_get h (show j < s.size by omega))
      omega
    omega
  have HT := Lib.hid fun k => show sumB tk s (k + 1) = sumB tk s k + tk (chAt s k) from rfl
  have HE := Lib.hid (show takesF s = sumB tk s s.size from rfl)
  generalize takesF s = R at *
  obtain ⟨n, hn⟩ : ∃ n, n = s.size := ⟨_, rfl⟩
  have HN := Lib.hid hn
  rw [← hn] at hs HA HB HE
  clear hn h
  go_enter Tryd.func31, Tryd.ntmps31
  go_wp2_with fail
  refine (stitches_any _).mono ?_
  rintro e w1 ⟨b, rfl, hm, hB, hb⟩
  have H0 := Lib.hid (IW.start (s := s) hm hB hb)
  clear hm hB hb
  go_wp2_with fail
  generalize w1.iter s 0 = w2 at *
  generalize w1.heap.size = r at *
  go_loopw [6] (fun t wr => ∃ k : Nat, k ≤ n ∧ t = .int .i64 (sumB tk s k) ∧ Hid (IW w wr b r s k)) (fun _ wr => n - wr.iterPos r)
  case atStart => exact ⟨0, Nat.zero_le _, rfl, H0⟩
  case round =>
    obtain ⟨k, hk, rfl, hI⟩ := hrel
    have hb := HB.out k hk
    by_cases hlt : k < n
    · have hst := HA.out k hlt
      obtain ⟨w3, hnx, hI2⟩ := hI.out.next (by rw [← HN.out]; exact hlt) hst
      have hlk := (hI2.look hst).2
      have hps := Lib.hid hI.out.pos
      have I2 := Lib.hid hI2
      have HT2 := Lib.hid (HT.out k)
      have hb2 : 0 ≤ tk (chAt s k) ∧ tk (chAt s k) ≤ 6 := by
        have := tk_bd hst
        omega
      have hC := Lib.hid fun wx => takes_st (tk (chAt s k)) (mk (chAt s k)) (nd (chAt s k)) wx
      clear hI hI2 hst
      unfold stv at hlk
      generalize chAt s k = x at *
      generalize tk x = xt at *
      generalize mk x = xm at *
      generalize nd x = xn at *
      generalize sumB tk s k = t at *
      go_wp2_with fail
      refine (hC.out _).mono ?_
      rintro e w4 ⟨rfl, hB⟩
      have I3 := Lib.hid (I2.out.below hB)
      clear hB I2
      go_wp2
      go_roundw
      case rel => exact ⟨k + 1, by omega, by rw [HT2.out], I3⟩
      case measure =>
        rw [I3.out.pos, hps.out]
        omega
    · have hkn : k = n := by omega
      have hnx := hI.out.stop (by rw [← HN.out]; exact hlt)
      subst hkn
      generalize sumB tk s k = t at *
      go_wp2
      go_ret
      exact ⟨ret_int HE.out.symm, hI.out.2.2.1⟩

theorem makes_st (a b c : Int) (w : World) :
    Calls Tryd.prog 32 #[.agg #[.int .i64 a, .int .i64 b, .int .i64 c]] w fun e w' => e = .returned (.int .i64 b) ∧ Below w.heap.size w w' := by
  go_enter Tryd.func32, Tryd.ntmps32
  go_wp2
  go_ret
  exact ⟨rfl, by go_grown⟩

set_option maxRecDepth 100000 in
set_option maxHeartbeats 4000000 in
theorem makes_total (s : ByteArray) (w : World) (h : allSt s = true) (hs : s.size ≤ 1048576) :
    Calls Tryd.prog 31 #[.string s, .func (Fn.func 32) #[] #[]] w fun e w' => e = .returned (.int .i64 (makesF s)) ∧ Below w.heap.size w w' := by
  have HA := Lib.hid fun k (hk : k < s.size) => allK_get h hk
  have HB := Lib.hid fun k (hk : k ≤ s.size) => show 0 ≤ sumB mk s k ∧ sumB mk s k ≤ 6 * k from by
    have := sum_bd (f := mk) (s := s) (hi := 6) (k := k) fun j hj => by
      have := mk_bd (chAt s j)
      omega
    omega
  have HT := Lib.hid fun k => show sumB mk s (k + 1) = sumB mk s k + mk (chAt s k) from rfl
  have HE := Lib.hid (show makesF s = sumB mk s s.size from rfl)
  generalize makesF s = R at *
  obtain ⟨n, hn⟩ : ∃ n, n = s.size := ⟨_, rfl⟩
  have HN := Lib.hid hn
  rw [← hn] at hs HA HB HE
  clear hn h
  go_enter Tryd.func31, Tryd.ntmps31
  go_wp2_with fail
  refine (stitches_any _).mono ?_
  rintro e w1 ⟨b, rfl, hm, hB, hb⟩
  have H0 := Lib.hid (IW.start (s := s) hm hB hb)
  clear hm hB hb
  go_wp2_with fail
  generalize w1.iter s 0 = w2 at *
  generalize w1.heap.size = r at *
  go_loopw [6] (fun t wr => ∃ k : Nat, k ≤ n ∧ t = .int .i64 (sumB mk s k) ∧ Hid (IW w wr b r s k)) (fun _ wr => n - wr.iterPos r)
  case atStart => exact ⟨0, Nat.zero_le _, rfl, H0⟩
  case round =>
    obtain ⟨k, hk, rfl, hI⟩ := hrel
    have hb := HB.out k hk
    by_cases hlt : k < n
    · have hst := HA.out k hlt
      obtain ⟨w3, hnx, hI2⟩ := hI.out.next (by rw [← HN.out]; exact hlt) hst
      have hlk := (hI2.look hst).2
      have hps := Lib.hid hI.out.pos
      have I2 := Lib.hid hI2
      have HT2 := Lib.hid (HT.out k)
      have hb2 : 0 ≤ mk (chAt s k) ∧ mk (chAt s k) ≤ 6 := by
        have := mk_bd (chAt s k)
        omega
      have hC := Lib.hid fun wx => makes_st (tk (chAt s k)) (mk (chAt s k)) (nd (chAt s k)) wx
      clear hI hI2 hst
      unfold stv at hlk
      generalize chAt s k = x at *
      generalize tk x = xt at *
      generalize mk x = xm at *
      generalize nd x = xn at *
      generalize sumB mk s k = t at *
      go_wp2_with fail
      refine (hC.out _).mono ?_
      rintro e w4 ⟨rfl, hB⟩
      have I3 := Lib.hid (I2.out.below hB)
      clear hB I2
      go_wp2
      go_roundw
      case rel => exact ⟨k + 1, by omega, by rw [HT2.out], I3⟩
      case measure =>
        rw [I3.out.pos, hps.out]
        omega
    · have hkn : k = n := by omega
      have hnx := hI.out.stop (by rw [← HN.out]; exact hlt)
      subst hkn
      generalize sumB mk s k = t at *
      go_wp2
      go_ret
      exact ⟨ret_int HE.out.symm, hI.out.2.2.1⟩
end Go.Proofs.YtcgcaghmpegehaaDoor
