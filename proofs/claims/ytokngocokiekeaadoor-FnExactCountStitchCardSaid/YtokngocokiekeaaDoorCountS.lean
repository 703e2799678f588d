/-
  No statement is proved here: how often a stitch comes, in the document's own text; condition: rows of at most 1048576 bytes.
-/
import Derived.Test.YtokngocokiekeaaDoorKnitO
namespace Go.Proofs.YtokngocokiekeaaDoor
open Go.ChangeShapes Go.WideShapes Go.ChangeAt Go.RowKit

/-- How often a letter comes among the first k of a row, and in the first k rows. -/
def cntB (x : Nat) (s : ByteArray) : Nat → Int
  | 0 => 0
  | k + 1 => cntB x s k + (if chAt s k = x then 1 else 0)
def cntR (x : Nat) (L : List ByteArray) : Nat → Int
  | 0 => 0
  | k + 1 => cntR x L k + cntB x (rowAt L k) (rowAt L k).size
theorem cntB_bd (x : Nat) (s : ByteArray) : ∀ k : Nat, 0 ≤ cntB x s k ∧ cntB x s k ≤ k
  | 0 => by simp [cntB]
  | k + 1 => by
    have ih := cntB_bd x s k
    rw [cntB]
    split <;> omega
theorem cntR_bd {x : Nat} {L : List ByteArray} : ∀ {k : Nat}, (∀ j, j < k → (rowAt L j).size ≤ 120) → 0 ≤ cntR x L k ∧ cntR x L k ≤ 120 * k
  | 0, _ => by simp [cntR]
  | k + 1, h => by
    have ih := cntR_bd (x := x) (k := k) fun j hj => h j (by omega)
    have h1 := cntB_bd x (rowAt L k) (rowAt L k).size
    have h2 := h k (by omega)
    rw [cntR]
    omega
/-- What CountStitch answers. -/
def countF (c : Int) (L : List ByteArray) (x : Nat) : Int × Int := if okF c L = true then (if isSt x = true then (cntR x L L.length, 0) else (0, 5)) else (0, 1)
theorem u8_nat {x : Int} (h : IntKind.u8.has x) : ∃ b : Nat, x = (b : Int) ∧ b ≤ 255 := by
  have h2 : 0 ≤ x ∧ x ≤ 255 := h
  exact ⟨x.toNat, by omega, by omega⟩

set_option maxRecDepth 100000 in
set_option maxHeartbeats 8000000 in
theorem specCount_any (c : Int) (v : Value) (L : List ByteArray) (x : Nat) (w : World) (hc : -32768 ≤ c ∧ c ≤ 32767)
    (h : Strs w v L) (hn : L.length ≤ 1048576) (hs : ∀ j, j < L.length → (rowAt L j).size ≤ 1048576) :
    Calls Tryd.prog 55 #[.agg #[.int .i16 c, v], .int .u8 (x : Int)] w fun e w' => e = .returned (.tuple #[.int .i64 (countF c L x).1, .int .i64 (countF c L x).2]) ∧ Below w.heap.size w w' := by
  have X0 := Lib.hid (hb2_made w (.int .i16 c) v 28)
  have HA1 := Lib.hid (specOk_any w.heap.size c v L _ X0.out.1 X0.out.2.1 hc (h.below X0.out.2.2.1) hn hs)
  have HT := Lib.hid fun wx => specTk_any x wx
  have HY := Lib.hid (show countF c L x = if okF c L = true then (if isSt x = true then (cntR x L L.length, 0) else (0, 5)) else (0, 1) from rfl)
  generalize countF c L x = R at *
  cases hok : okF c L with
  | false =>
    rw [hok] at HA1 HY
    obtain ⟨a1, cp, rfl⟩ := h.len
    clear h hn hs hc hok HT
    go_enter Tryd.func55, Tryd.ntmps55
    go_wp2_with fail
    refine HA1.out.mono ?_
    rintro e w2 ⟨rfl, m, rfl⟩
    go_wp2
    go_ret2
    rw [HY.out]
    exact ⟨rfl, X0.out.2.2.1.trans ((bdN _ _).mono X0.out.2.2.1.size)⟩
  | true =>
    rw [hok] at HA1 HY
    cases hst : isSt x with
    | false =>
      rw [hst] at HY
      rw [tk_no hst] at HT
      obtain ⟨a1, cp, rfl⟩ := h.len
      clear h hn hs hc hok hst
      go_enter Tryd.func55, Tryd.ntmps55
      go_wp2_with fail
      refine HA1.out.mono ?_
      rintro e w2 ⟨rfl, m, rfl⟩
      go_wp2_with fail
      refine (HT.out _).mono ?_
      rintro e w2 ⟨rfl, rfl⟩
      go_wp2
      go_ret2
      rw [HY.out]
      exact ⟨rfl, X0.out.2.2.1.trans ((bdN _ _).mono X0.out.2.2.1.size)⟩
    | true =>
      rw [hst] at HY
      obtain ⟨ht1, ht2⟩ := tk_bd hst
      obtain ⟨hcb, hfine⟩ := okF_parts hok
      have hlen := fine_len hfine
      have HS2 := Lib.hid fun k (hk : k < L.length) => row_size hcb (k := k) fun j hj => hfine j (by omega)
      have HSB := Lib.hid fun k (hk : k ≤ L.length) => cntR_bd (x := x) (L := L) (k := k) fun j hj => HS2.out j (by omega)
      have HSrc : Hid (∃ a1 cp, v = .slice a1 L.length cp ∧ ∀ k, k < L.length → ∃ b off, a1 = some ⟨b, off, none⟩ ∧ b < w.heap.size ∧ w.cell? ⟨b, off + k, none⟩ = some (.string (rowAt L k))) := by
        rcases h with ⟨a1, cp, rfl, rfl⟩ | ⟨b, off, cap, rfl, h0, hb, hc⟩
        · exact ⟨a1, cp, rfl, fun k hk => absurd hk (Nat.not_lt_zero k)⟩
        · exact ⟨_, cap, rfl, fun k hk => ⟨b, off, rfl, hb, hc k hk⟩⟩
      obtain ⟨a1, cp, rfl, hsrc⟩ := HSrc.out
      have HSR := Lib.hid hsrc
      obtain ⟨n, hln⟩ : ∃ n, n = L.length := ⟨_, rfl⟩
      rw [← hln] at HSR HY HS2 HSB hlen
      have HL := Lib.hid hln
      rw [← hln] at HA1 X0
      have eL : (Value.slice a1 L.length cp) = .slice a1 n cp := by rw [HL.out]
      rw [eL]
      clear h hn hs hc hok hfine HSrc hsrc hln eL hcb hst
      generalize tk x = tx at *
      go_enter Tryd.func55, Tryd.ntmps55
      go_wp2_with fail
      refine HA1.out.mono ?_
      rintro e w2 ⟨rfl, m, rfl⟩
      have X1 : Hid (Hb2 w ((w.alloc (.cells #[.int .i16 c, .slice a1 n cp] 28)).drewN m) w.heap.size _ _) := Lib.hid (hb2_id (hb2_next X0.out (bdN _ m)))
      clear X0 HA1
      generalize (w.alloc (.cells #[.int .i16 c, .slice a1 n cp] 28)).drewN m = w2 at *
      obtain ⟨p0, p1, hB, _⟩ := X1.out
      clear hB
      go_wp2_with fail
      refine (HT.out _).mono ?_
      rintro e w3 ⟨rfl, rfl⟩
      go_wp2_with fail
      go_loop [6, 7] (fun t i => ∃ k : Nat, k ≤ n ∧ i = .int .i64 k ∧ t = .int .i64 (cntR x L k)) (fun _ i => n - (intOf i).toNat)
      case atStart => exact ⟨0, Nat.zero_le _, rfl, rfl⟩
      case round =>
        obtain ⟨k, hk, rfl, rfl⟩ := hrel
        have hb2 := HSB.out k hk
        by_cases hlt : k < n
        · obtain ⟨b, off, rfl, hbw, hcell⟩ := HSR.out k hlt
          have c1 : w2.cell? ⟨b, off + k, none⟩ = some (.string (rowAt L k)) := kept X1.out.2.2.1 hbw hcell
          have hsz := HS2.out k hlt
          have HR2 := Lib.hid (show cntR x L (k + 1) = cntR x L k + cntB x (rowAt L k) (rowAt L k).size from rfl)
          have HI := Lib.hid fun j hj wx => chAt_idx (rowAt L k) j hj wx
          have HB := Lib.hid fun j => cntB_bd x (rowAt L k) j
          have HST := Lib.hid fun j => show cntB x (rowAt L k) (j + 1) = cntB x (rowAt L k) j + (if chAt (rowAt L k) j = x then 1 else 0) from rfl
          have HZ := Lib.hid (show cntB x (rowAt L k) 0 = 0 from rfl)
          generalize rowAt L k = s at *
          generalize cntR x L k = m1 at *
          have hsb : (s.size : Int) ≤ 120 := by omega
          have hkb : (k : Int) ≤ 30 := by omega
          obtain ⟨hb3, hb4⟩ := hb2
          have hb5 : m1 ≤ 3600 := by omega
          clear hcell hb4
          go_wp2_with fail
          go_loop [6, 8] (fun t i => ∃ j : Nat, j ≤ s.size ∧ i = .int .i64 j ∧ t = .int .i64 (m1 + cntB x s j)) (fun _ i => s.size - (intOf i).toNat)
          case atStart => exact ⟨0, Nat.zero_le _, rfl, by rw [HZ.out]; simp⟩
          case round =>
            obtain ⟨j, hj, rfl, rfl⟩ := hrel
            obtain ⟨hj1, hj2⟩ := HB.out j
            by_cases hjl : j < s.size
            · have q := HI.out j hjl
              have ht := HST.out j
              generalize chAt s j = y at *
              generalize cntB x s j = m2 at *
              by_cases hyx : y = x
              · have g1 : ((y : Int) == (x : Int)) = true := by rw [beq_iff_eq]; omega
                rw [if_pos hyx] at ht
                have HT2 := Lib.hid ht
                clear ht hyx
                go_wp2
                go_round
                case rel => exact ⟨j + 1, by omega, by go_num, by rw [HT2.out]; go_num⟩
                case measure => simp [intOf]; omega
              · have g1 : ((y : Int) == (x : Int)) = false := by rw [beq_eq_false_iff_ne]; omega
                rw [if_neg hyx] at ht
                have HT2 := Lib.hid ht
                clear ht hyx
                go_wp2
                go_round
                case rel => exact ⟨j + 1, by omega, by go_num, by rw [HT2.out]; go_num⟩
                case measure => simp [intOf]; omega
            · have hjn : j = s.size := by omega
              subst hjn
              generalize cntB x s s.size = m2 at *
              go_wp2
              go_round
              case rel => exact ⟨k + 1, by omega, by go_num, by rw [HR2.out]⟩
              case measure => simp [intOf]; omega
        · have hkn : k = n := by omega
          subst hkn
          generalize cntR x L k = m1 at *
          go_wp2
          go_ret2
          rw [HY.out]
          exact ⟨rfl, X1.out.2.2.1⟩
end Go.Proofs.YtokngocokiekeaaDoor
