/-
  No statement is proved here: how many rows can be knitted with some yarn, in the document's own text; condition: rows of at most 1048576 bytes.
-/
import Derived.Test.YtokngocokiekeaaDoorYarnS
namespace Go.Proofs.YtokngocokiekeaaDoor
open Go.ChangeShapes Go.WideShapes Go.ChangeAt Go.RowKit

/-- How many rows, from the first on, are within l. -/
def cntTo (L : List ByteArray) (g l : Int) (n : Nat) : Int := if firstNo (fun k => decide (g * sumN L (k + 1) ≤ l)) n = -1 then n else firstNo (fun k => decide (g * sumN L (k + 1) ≤ l)) n
theorem cntTo_all {L : List ByteArray} {g l : Int} {n : Nat} (h : ∀ j, j < n → g * sumN L (j + 1) ≤ l) : cntTo L g l n = n := by
  unfold cntTo
  rw [firstNo_all fun j hj => decide_eq_true (h j hj)]
  rfl
theorem cntTo_at {L : List ByteArray} {g l : Int} {n k : Nat} (hk : k < n) (h : ∀ j, j < k → g * sumN L (j + 1) ≤ l) (hr : ¬ g * sumN L (k + 1) ≤ l) : cntTo L g l n = k := by
  unfold cntTo
  rw [firstNo_at hk (fun j hj => decide_eq_true (h j hj)) (decide_eq_false hr), if_neg (by omega)]
/-- What RowsWith answers. -/
def rowsF (c : Int) (L : List ByteArray) (g y : Int) : Int × Int :=
  if askF c L (inB g 1 100 && inB y 0 1000000) = 0 then (if y - 4 * g * c < 0 then (0, 6) else (cntTo L g (y - 4 * g * c) L.length, 0)) else (0, askF c L (inB g 1 100 && inB y 0 1000000))

set_option maxRecDepth 100000 in
set_option maxHeartbeats 8000000 in
theorem specRows_any (c : Int) (v : Value) (L : List ByteArray) (g y : Int) (w : World) (hc : -32768 ≤ c ∧ c ≤ 32767)
    (h : Strs w v L) (hn : L.length ≤ 1048576) (hs : ∀ j, j < L.length → (rowAt L j).size ≤ 1048576) :
    Calls Tryd.prog 43 #[.agg #[.int .i16 c, v], .int .i64 g, .int .i64 y] w fun e w' => e = .returned (.tuple #[.int .i64 (rowsF c L g y).1, .int .i64 (rowsF c L g y).2]) ∧ Below w.heap.size w w' := by
  have X0 := Lib.hid (hb2_made w (.int .i16 c) v 28)
  have HG := Lib.hid fun wx => specGauge_any g wx
  have HI := Lib.hid fun wx => in_any y 0 1000000 wx
  have HA := Lib.hid fun f => specAsked_any w.heap.size c v L f _ X0.out.1 X0.out.2.1 hc (h.below X0.out.2.2.1) hn hs
  obtain ⟨fi, hfi⟩ : ∃ fi, fi = (inB g 1 100 && inB y 0 1000000) := ⟨_, rfl⟩
  have HY := Lib.hid (show rowsF c L g y = if askF c L fi = 0 then (if y - 4 * g * c < 0 then (0, 6) else (cntTo L g (y - 4 * g * c) L.length, 0)) else (0, askF c L fi) by rw [hfi]; rfl)
  generalize rowsF c L g y = R at *
  have HA1 := Lib.hid (HA.out fi)
  by_cases h0 : askF c L fi = 0
  · obtain ⟨hok, hf⟩ := askF_zero h0
    obtain ⟨hcb, hfine⟩ := okF_parts hok
    rw [h0, hf] at HA1
    have HR := Lib.hid (HY.out.trans (if_pos h0))
    have hfb := hfi.symm.trans hf
    rw [Bool.and_eq_true] at hfb
    have hgb := inB_of hfb.1
    have hyb := inB_of hfb.2
    rw [hfb.1] at HG
    rw [hfb.2] at HI
    have hlen := fine_len hfine
    have HS2 := Lib.hid fun k (hk : k < L.length) => row_size hcb (k := k) fun j hj => hfine j (by omega)
    have HST := Lib.hid fun k => show g * sumN L (k + 1) = g * sumN L k + g * needsF (rowAt L k) from Int.mul_add g _ _
    have HNB := Lib.hid fun k => show 0 ≤ needsF (rowAt L k) ∧ needsF (rowAt L k) ≤ 6 * (rowAt L k).size from needs_bd (rowAt L k) (rowAt L k).size
    have HZ := Lib.hid (show g * sumN L 0 = 0 by simp [sumN])
    have HGB := Lib.hid fun k (hk : k ≤ L.length) => mul_bd (a := g) (b := sumN L k) (A := 100) (B := 720 * k) (by omega) hgb.2 (sumN_bd (L := L) (k := k) fun j hj => HS2.out j (by omega)).1 (sumN_bd (L := L) (k := k) fun j hj => HS2.out j (by omega)).2
    have HSrc : Hid (∃ a1 cp, v = .slice a1 L.length cp ∧ ∀ k, k < L.length → ∃ b off, a1 = some ⟨b, off, none⟩ ∧ b < w.heap.size ∧ w.cell? ⟨b, off + k, none⟩ = some (.string (rowAt L k))) := by
      rcases h with ⟨a1, cp, rfl, rfl⟩ | ⟨b, off, cap, rfl, h0, hb, hc⟩
      · exact ⟨a1, cp, rfl, fun k hk => absurd hk (Nat.not_lt_zero k)⟩
      · exact ⟨_, cap, rfl, fun k hk => ⟨b, off, rfl, hb, hc k hk⟩⟩
    obtain ⟨a1, cp, rfl, hsrc⟩ := HSrc.out
    have HSR := Lib.hid hsrc
    have hmb := mul_bd (a := 4 * g) (b := c) (A := 400) (B := 60) (by omega) (by omega) (by omega) hcb.2
    obtain ⟨q, hq⟩ : ∃ q, q = 4 * g * c := ⟨_, rfl⟩
    have HQ := Lib.hid hq
    rw [← hq] at hmb HR
    have u1 : ∀ [Inhabited Nat], IntKind.i64.wrap (4 * g * c) = q := by intro _; rw [← hq]; exact (IntWalk.i64_in _ (by omega)).trans (by omega)
    have u2 : ∀ [Inhabited Nat], wrap64 (4 * g * c) = q := by intro _; rw [← hq]; exact (IntWalk.wrap64_in _ (by omega)).trans (by omega)
    obtain ⟨n, hln⟩ : ∃ n, n = L.length := ⟨_, rfl⟩
    rw [← hln] at HSR HR HS2 HGB hlen
    have HL := Lib.hid hln
    rw [← hln] at HA1 X0
    have eL : (Value.slice a1 L.length cp) = .slice a1 n cp := by rw [HL.out]
    rw [eL]
    clear h hn hs hc h0 hok hf hfine hfi HSrc hsrc HA HY hln eL hfb hq
    obtain ⟨hc1, hc2⟩ := hcb
    obtain ⟨hg1, hg2⟩ := hgb
    obtain ⟨hy1, hy2⟩ := hyb
    obtain ⟨hm1, hm2⟩ := hmb
    go_enter Tryd.func43, Tryd.ntmps43
    go_wp2_with fail
    refine (HG.out _).mono ?_
    rintro e w1 ⟨rfl, rfl⟩
    go_wp2_with fail
    refine (HI.out _).mono ?_
    rintro e w1 ⟨rfl, rfl⟩
    go_wp2_with fail
    refine HA1.out.mono ?_
    rintro e w2 ⟨rfl, m, rfl⟩
    have X1 : Hid (Hb2 w ((w.alloc (.cells #[.int .i16 c, .slice a1 n cp] 28)).drewN m) w.heap.size _ _) := Lib.hid (hb2_id (hb2_next X0.out (bdN _ m)))
    clear X0 HA1 HG HI
    generalize (w.alloc (.cells #[.int .i16 c, .slice a1 n cp] 28)).drewN m = w2 at *
    obtain ⟨p0, p1, hB, _⟩ := X1.out
    by_cases hneg : y - q < 0
    · have HR2 := Lib.hid (HR.out.trans (if_pos hneg))
      have B1 := Lib.hid hB
      clear hB HR
      go_wp2
      go_ret2
      rw [HR2.out]
      exact ⟨rfl, B1.out⟩
    · have HR2 := Lib.hid (HR.out.trans (if_neg hneg))
      clear HR
      obtain ⟨l, hl⟩ : ∃ l, l = y - q := ⟨_, rfl⟩
      rw [← hl] at HR2
      have hl1 : 0 ≤ l := by omega
      have hl2 : l ≤ 1000000 := by omega
      have HLL := Lib.hid hl
      go_wp2_with fail
      go_loop [2, 9, 10] (fun t ct i => ∃ k : Nat, k ≤ n ∧ i = .int .i64 k ∧ ct = .int .i64 k ∧ t = .int .i64 (y - q - g * sumN L k) ∧ Hid (∀ j, j < k → g * sumN L (j + 1) ≤ l)) (fun _ _ i => n - (intOf i).toNat)
      case atStart => exact ⟨0, Nat.zero_le _, rfl, rfl, by rw [HZ.out]; simp, fun j hj => absurd hj (Nat.not_lt_zero j)⟩
      case round =>
        obtain ⟨k, hk, rfl, rfl, rfl, hA⟩ := hrel
        have hb2 := HGB.out k hk
        by_cases hlt : k < n
        · obtain ⟨b, off, rfl, hbw, hcell⟩ := HSR.out k hlt
          have c1 : w2.cell? ⟨b, off + k, none⟩ = some (.string (rowAt L k)) := kept X1.out.2.2.1 hbw hcell
          have hsz := HS2.out k hlt
          have HN := Lib.hid fun wx => specNeeds_any (rowAt L k) wx (by omega)
          have hnb := HNB.out k
          have HT2 := Lib.hid (HST.out k)
          have HA2 : Hid (g * sumN L (k + 1) ≤ l → ∀ j, j < k + 1 → g * sumN L (j + 1) ≤ l) := fun h j hj => by
            by_cases e : j = k
            · rw [e]; exact h
            · exact hA.out j (by omega)
          have HC := Lib.hid fun hr => cntTo_at (n := n) hlt hA.out hr
          generalize rowAt L k = s at *
          generalize needsF s = z at *
          have hzb := mul_bd (a := g) (b := z) (A := 100) (B := 720) (by omega) hg2 hnb.1 (by omega)
          generalize g * sumN L k = m1 at *
          obtain ⟨r, hr⟩ : ∃ r, r = g * z := ⟨_, rfl⟩
          rw [← hr] at hzb HT2
          have u3 : ∀ [Inhabited Nat], IntKind.i64.wrap (g * z) = r := by intro _; rw [← hr]; exact (IntWalk.i64_in _ (by omega)).trans (by omega)
          have u4 : ∀ [Inhabited Nat], wrap64 (g * z) = r := by intro _; rw [← hr]; exact (IntWalk.wrap64_in _ (by omega)).trans (by omega)
          have hkn : (k : Int) ≤ 30 := by omega
          have hms : (720 : Int) * (k : Int) ≤ 21600 := by omega
          obtain ⟨hb3, hb4⟩ := hb2
          obtain ⟨hz3, hz4⟩ := hzb
          have hb5 : m1 ≤ 2160000 := by omega
          clear hcell hr hB hl hb4
          by_cases hneg2 : y - q - m1 - r < 0
          · have HX := Lib.hid (HC.out (by rw [HT2.out]; have := HLL.out; omega))
            clear HC HA2
            go_wp2_with fail
            refine (HN.out _).mono ?_
            rintro e w3 ⟨rfl, rfl⟩
            go_wp2
            go_ret2
            rw [HR2.out, HX.out]
            exact ⟨rfl, X1.out.2.2.1⟩
          · have HX := Lib.hid (HA2.out (by rw [HT2.out]; have := HLL.out; omega))
            clear HC HA2
            go_wp2_with fail
            refine (HN.out _).mono ?_
            rintro e w3 ⟨rfl, rfl⟩
            go_wp2
            go_round
            case rel => exact ⟨k + 1, by omega, by go_num, by go_num, by rw [HT2.out]; go_num, HX⟩
            case measure => simp [intOf]; omega
        · have hkn : k = n := by omega
          subst hkn
          have HX := Lib.hid (cntTo_all (n := k) hA.out)
          have B1 := Lib.hid hB
          clear hB hl
          generalize g * sumN L k = m1 at *
          go_wp2
          go_ret2
          rw [HR2.out, HX.out]
          exact ⟨rfl, B1.out⟩
  · have HR := Lib.hid (HY.out.trans (if_neg h0))
    have hne : (askF c L fi != 0) = true := by rw [bne_iff_ne]; exact h0
    generalize askF c L fi = r at *
    obtain ⟨a1, cp, rfl⟩ := h.len
    clear h hn hs hc h0 HA HY
    cases h1 : inB g 1 100 with
    | false =>
      rw [h1] at HG
      have e : fi = false := by rw [hfi, h1]; rfl
      subst e
      clear hfi h1
      go_enter Tryd.func43, Tryd.ntmps43
      go_wp2_with fail
      refine (HG.out _).mono ?_
      rintro e w1 ⟨rfl, rfl⟩
      go_wp2_with fail
      refine HA1.out.mono ?_
      rintro e w2 ⟨rfl, m, rfl⟩
      go_wp2
      go_ret2
      rw [HR.out]
      exact ⟨rfl, X0.out.2.2.1.trans ((bdN _ _).mono X0.out.2.2.1.size)⟩
    | true =>
      rw [h1] at HG
      have e : inB y 0 1000000 = fi := by rw [hfi, h1]; rfl
      rw [e] at HI
      clear hfi h1 e
      go_enter Tryd.func43, Tryd.ntmps43
      go_wp2_with fail
      refine (HG.out _).mono ?_
      rintro e w1 ⟨rfl, rfl⟩
      go_wp2_with fail
      refine (HI.out _).mono ?_
      rintro e w1 ⟨rfl, rfl⟩
      go_wp2_with fail
      refine HA1.out.mono ?_
      rintro e w2 ⟨rfl, m, rfl⟩
      go_wp2
      go_ret2
      rw [HR.out]
      exact ⟨rfl, X0.out.2.2.1.trans ((bdN _ _).mono X0.out.2.2.1.size)⟩
end Go.Proofs.YtokngocokiekeaaDoor
