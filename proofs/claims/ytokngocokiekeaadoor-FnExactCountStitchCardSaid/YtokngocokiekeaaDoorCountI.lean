/-
  No statement is proved here: how often a stitch comes, in the program; condition: its errors lie where its text lays them; at most 1048576 rows of at most 1048576 bytes.
-/
import Derived.Test.YtokngocokiekeaaDoorCountS
import Derived.Test.YtokngocokiekeaaDoorKnitP
namespace Go.Proofs.YtokngocokiekeaaDoor
open Go.ChangeShapes Go.WideShapes Go.ChangeAt Go.RowKit

theorem hb3_at {w W : World} (h : Below w.heap.size w W) (x y z : Value) (t : TypeId) : Hb3 w (W.alloc (.cells #[x, y, z] t)) W.heap.size x y z := ⟨by simp [go_sem], by simp [go_sem], by simp [go_sem], h.alloc h.size _, by simp⟩
/-- Where the letters of a row are, in a world behind W. -/
def IT (W wr : World) (r : Nat) (s : ByteArray) (k : Nat) : Prop := wr.heap[r]? = some (.stringIter s k) ∧ Below W.heap.size W wr ∧ W.heap.size ≤ r ∧ r < wr.heap.size
theorem IT.start (W : World) (s : ByteArray) : IT W (W.iter s 0) W.heap.size s 0 := ⟨heap_alloc_new W _, (Below.refl _ _).alloc (Nat.le_refl _) _, Nat.le_refl _, by simp [World.iter]⟩
theorem IT.pos {W wr : World} {r : Nat} {s : ByteArray} {k : Nat} (h : IT W wr r s k) : wr.iterPos r = k := by
  unfold World.iterPos
  rw [h.1]
theorem IT.next {W wr : World} {r : Nat} {s : ByteArray} {k : Nat} (h : IT W wr r s k) (hk : k < s.size) (hs : isSt (chAt s k) = true) :
    ∃ w2, (∀ ty, (Instr.next (.pointer (some ⟨r, 0, none⟩)) true ty).run Tryd.prog wr = .ok (.tuple #[.bool true, .int .i64 k, .int .i32 (chAt s k : Nat)]) w2) ∧ IT W w2 r s (k + 1) := by
  have ha : (s[k]'hk).toNat < 128 := by
    rw [chAt_get]
    rcases isSt_cases hs with e | e | e | e | e <;> omega
  have hd := decode_ascii s k hk ha
  refine ⟨wr.iterAt r s (k + 1), fun ty => ?_, ?_⟩
  · rw [Go.Lib.run_next_any_at wr r s k ty h.1 hk, hd, chAt_get]
  · obtain ⟨h2, h3, h4, h6⟩ := h
    exact ⟨Go.Lib.iterAt_heap wr r s k _ h2, Go.Lib.below_iterAt h3 (by omega) s _, h4, by rw [Go.Lib.iterAt_size]; exact h6⟩
theorem IT.stop {W wr : World} {r : Nat} {s : ByteArray} {k : Nat} (h : IT W wr r s k) (hk : ¬ k < s.size) :
    ∀ ty, (Instr.next (.pointer (some ⟨r, 0, none⟩)) true ty).run Tryd.prog wr = .ok (.tuple #[.bool false]) wr := fun ty => Go.Lib.run_next_end_at wr r s k ty h.1 hk

set_option maxRecDepth 100000 in
set_option maxHeartbeats 8000000 in
theorem implCount_any (p : Nat → Addr) (c : Int) (v : Value) (L : List ByteArray) (x : Nat) (w : World) (hs : Sent w p) (hc : -32768 ≤ c ∧ c ≤ 32767) (h : Strs w v L) (hn : L.length ≤ 1048576) (hsz : ∀ j, j < L.length → (rowAt L j).size ≤ 1048576) (hx : x ≤ 255) :
    Calls Tryd.prog 56 #[.agg #[.int .i16 c, v], .int .u8 (x : Int)] w fun e w' => e = .returned (.tuple #[.int .i64 (countF c L x).1, .int .i64 (countF c L x).2]) ∧ Below w.heap.size w w' := by
  have B0 : Hid (Below w.heap.size w (w.alloc (.cells #[.int .i16 c, v] 28))) := (Below.refl w.heap.size w).alloc (Nat.le_refl _) _
  have HP := Lib.hid (piece_any p c v L (.slice none 0 0) true _ (hs.below B0.out) hc (h.below B0.out) hn hsz (fun wx _ => check0_any wx))
  have HY := Lib.hid (show countF c L x = if okF c L = true then (if isSt x = true then (cntR x L L.length, 0) else (0, 5)) else (0, 1) from rfl)
  generalize countF c L x = R at *
  have HNO := Lib.hid fun (h : isSt x = false) => isSt_no h
  have HXI : (x : Int) ≤ 255 := by omega
  obtain ⟨a1, cp, rfl⟩ := h.len
  clear hs h hn hsz hc
  go_enter Tryd.func56, Tryd.ntmps56
  go_wp2_with fail
  refine HP.out.mono ?_
  rintro e w1 ⟨hB, hR⟩
  have B1 := Lib.hid (B0.out.trans (hB.mono B0.out.size))
  rcases hR with ⟨hok, rfl⟩ | ⟨hok, rv, wv, rfl, ho1, ho2, _⟩
  · rw [hok] at HY
    clear hB hok HP
    unfold pz
    go_wp2
    go_ret2
    rw [HY.out]
    exact ⟨rfl, B1.out.alloc B1.out.size _⟩
  · rw [hok] at HY
    obtain ⟨wa, wc, rfl⟩ : ∃ wa wc, wv = .slice wa (wdsTo c L (L.length + 1)).length wc := ho2.ints.len
    generalize (wdsTo c L (L.length + 1)).length = m at *
    have HO := Lib.hid ho1.strs
    obtain ⟨ra, rc, rfl⟩ : ∃ ra rc, rv = .slice ra L.length rc := ho1.strs.len
    obtain ⟨hcb, hfine⟩ := okF_parts hok
    have X0 := Lib.hid (hb3_at B1.out (.int .i64 c) (.slice ra L.length rc) (.slice wa m wc) 75)
    have OA : Hid (Strs (w1.alloc (.cells #[.int .i64 c, .slice ra L.length rc, .slice wa m wc] 75)) (.slice ra L.length rc) L) := Lib.hid (HO.out.below ((Below.refl w1.heap.size w1).alloc (Nat.le_refl _) _))
    have hlen := fine_len hfine
    have HS2 := Lib.hid fun k (hk : k < L.length) => row_size hcb (k := k) fun j hj => hfine j (by omega)
    have HAS := Lib.hid fun k (hk : k < L.length) => (canB_parts (hfine k hk)).1
    have HSB := Lib.hid fun k (hk : k ≤ L.length) => cntR_bd (x := x) (L := L) (k := k) fun j hj => HS2.out j (by omega)
    obtain ⟨n, hln⟩ : ∃ n, n = L.length := ⟨_, rfl⟩
    have HL := Lib.hid hln
    rw [← hln] at HY OA X0 hlen HS2 HAS HSB
    have eL : (Value.slice ra L.length rc) = .slice ra n rc := by rw [HL.out]
    rw [eL]
    clear hB hok HP ho1 ho2 HO hcb hfine hln eL
    go_wp2_with fail
    generalize w1.alloc (.cells #[.int .i64 c, .slice ra n rc, .slice wa m wc] 75) = w2 at *
    generalize w1.heap.size = pb at *
    refine (stitches_any _).mono ?_
    rintro e w3 ⟨b, rfl, hm, hB3, _⟩
    have X3 := Lib.hid (hb3_id (hb3_next X0.out hB3))
    have O3 := Lib.hid (OA.out.below hB3)
    clear hB3 X0 OA
    cases hst : isSt x with
    | false =>
      rw [hst] at HY
      have hlk := look32_no (P := Tryd.prog) (n := (x : Int)) Tryd.underlying117 Tryd.underlying21 (zeroSt w3) hm (by
        obtain ⟨h1, h2, h3, h4, h5⟩ := HNO.out hst
        exact findES_no (by omega) (by omega) (by omega) (by omega) (by omega))
      unfold stv at hlk
      clear hst hm HNO
      go_wp2
      go_ret2
      rw [HY.out]
      exact ⟨rfl, X3.out.2.2.2.1.alloc X3.out.2.2.2.1.size _⟩
    | true =>
      rw [hst] at HY
      have hlk : (Instr.lookup 117 (.map (some b)) (.int .i32 (x : Int)) true).run Tryd.prog w3 = .ok (.tuple #[stv (tk x) (mk x) (nd x), .bool true]) w3 := by
        obtain ⟨i, hf⟩ := findES hst
        exact (look32_yes (P := Tryd.prog) Tryd.underlying117 Tryd.underlying21 hm hf).1
      unfold stv at hlk
      clear hm HNO
      generalize tk x = tx at *
      generalize mk x = mx at *
      generalize nd x = nx at *
      have A4 : Below w3.heap.size w3 (w3.alloc (.cells #[.int .i64 tx, .int .i64 mx, .int .i64 nx] 115)) := (Below.refl _ _).alloc (Nat.le_refl _) _
      have X4 := Lib.hid (hb3_id (hb3_next X3.out A4))
      have O4 := Lib.hid (O3.out.below A4)
      obtain ⟨p0, p1, p2, _, _⟩ := X4.out
      clear A4 X3 O3 hst
      go_wp2_with fail
      generalize w3.alloc (.cells #[.int .i64 tx, .int .i64 mx, .int .i64 nx] 115) = w4 at *
      clear p0 p1 p2
      go_loopw [11, 37] (fun t i wr => ∃ k : Nat, k ≤ n ∧ i = .int .i64 k ∧ t = .int .i64 (cntR x L k) ∧ Hid (Below w.heap.size w wr) ∧ Hid (Strs wr (.slice ra n rc) L)) (fun _ i _ => n - (intOf i).toNat)
      case atStart => exact ⟨0, Nat.zero_le _, rfl, rfl, Lib.hid X4.out.2.2.2.1, O4⟩
      case round =>
        obtain ⟨k, hk, rfl, rfl, hB, hO⟩ := hrel
        have hb2 := HSB.out k hk
        by_cases hlt : k < n
        · obtain ⟨bb, off, rfl, hcell⟩ : ∃ bb off, ra = some ⟨bb, off, none⟩ ∧ wr.cell? ⟨bb, off + k, none⟩ = some (.string (rowAt L k)) := by
            rcases hO.out with ⟨a, cap, e, e2⟩ | ⟨b1, o1, cap, e, h0, hb, hc⟩
            · rw [e2] at HL
              have := HL.out
              simp at this
              omega
            · cases e
              exact ⟨b1, o1, rfl, hc k (by rw [← HL.out]; exact hlt)⟩
          have hsz := HS2.out k hlt
          have hall := HAS.out k hlt
          have HR2 := Lib.hid (show cntR x L (k + 1) = cntR x L k + cntB x (rowAt L k) (rowAt L k).size from rfl)
          have HB := Lib.hid fun j => cntB_bd x (rowAt L k) j
          have HST := Lib.hid fun j => show cntB x (rowAt L k) (j + 1) = cntB x (rowAt L k) j + (if chAt (rowAt L k) j = x then 1 else 0) from rfl
          have HZ := Lib.hid (show cntB x (rowAt L k) 0 = 0 from rfl)
          have HAL := Lib.hid fun j (hj : j < (rowAt L k).size) => allK_get hall hj
          generalize rowAt L k = s at *
          generalize cntR x L k = m1 at *
          have hsb : (s.size : Int) ≤ 120 := by omega
          have hkb : (k : Int) ≤ 30 := by omega
          obtain ⟨hb3, hb4⟩ := hb2
          have hb5 : m1 ≤ 3600 := by omega
          have I0 := Lib.hid (IT.start wr s)
          clear hb4 hall
          go_wp2_with fail
          generalize wr.iter s 0 = w5 at *
          obtain ⟨r, hr⟩ : ∃ r, r = wr.heap.size := ⟨_, rfl⟩
          have HRR := Lib.hid hr
          rw [← hr] at I0 ⊢
          clear hr
          go_loopw [11] (fun t wq => ∃ j : Nat, j ≤ s.size ∧ t = .int .i64 (m1 + cntB x s j) ∧ Hid (IT wr wq r s j)) (fun _ wq => s.size - wq.iterPos r)
          case atStart => exact ⟨0, Nat.zero_le _, by rw [HZ.out]; simp, I0⟩
          case round =>
            obtain ⟨j, hj, rfl, hI⟩ := hrel
            obtain ⟨hj1, hj2⟩ := HB.out j
            by_cases hjl : j < s.size
            · obtain ⟨w6, hnx, hI2⟩ := hI.out.next hjl (HAL.out j hjl)
              have hps := Lib.hid hI.out.pos
              have I2 := Lib.hid hI2
              have ht := HST.out j
              clear hI hI2
              generalize chAt s j = y at *
              generalize cntB x s j = m2 at *
              by_cases hyx : y = x
              · have g1 : ((y : Int) == (x : Int)) = true := by rw [beq_iff_eq]; omega
                rw [if_pos hyx] at ht
                have HT2 := Lib.hid ht
                clear ht hyx
                go_wp2
                go_roundw
                case rel => exact ⟨j + 1, by omega, by rw [HT2.out]; go_num, I2⟩
                case measure =>
                  rw [I2.out.pos, hps.out]
                  omega
              · have g1 : ((y : Int) == (x : Int)) = false := by rw [beq_eq_false_iff_ne]; omega
                rw [if_neg hyx] at ht
                have HT2 := Lib.hid ht
                clear ht hyx
                go_wp2
                go_roundw
                case rel => exact ⟨j + 1, by omega, by rw [HT2.out]; go_num, I2⟩
                case measure =>
                  rw [I2.out.pos, hps.out]
                  omega
            · have hjn : j = s.size := by omega
              have hnx := hI.out.stop hjl
              have B6 := Lib.hid (hB.out.trans (hI.out.2.1.mono hB.out.size))
              have O6 := Lib.hid (hO.out.below hI.out.2.1)
              subst hjn
              generalize cntB x s s.size = m2 at *
              clear hI
              go_wp2
              go_roundw
              case rel => exact ⟨k + 1, by omega, by go_num, by rw [HR2.out], B6, O6⟩
              case measure => simp [intOf]; omega
        · have hkn : k = n := by omega
          subst hkn
          generalize cntR x L k = m1 at *
          go_wp2
          go_ret2
          rw [HY.out]
          exact ⟨rfl, hB.out⟩
end Go.Proofs.YtokngocokiekeaaDoor
