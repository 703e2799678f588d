/-
  No statement is proved here: how many rows can be knitted with some yarn, in the program; condition: its errors lie where its text lays them; at most 1048576 rows of at most 1048576 bytes.
-/
import Derived.Test.YtokngocokiekeaaDoorRowsS
import Derived.Test.YtokngocokiekeaaDoorYarnI
namespace Go.Proofs.YtokngocokiekeaaDoor
open Go.ChangeShapes Go.WideShapes Go.ChangeAt Go.RowKit

theorem OwnT.cap {w : World} {base n c : Nat} {a : Option Addr} {zs : List ByteArray} (h : OwnT w base (.slice a n c) zs) : zs.length ≤ c := by
  rcases h.2 with ⟨e, hn⟩ | ⟨g, cap, cur, e, hb, hg, hle, _⟩
  · omega
  · cases e
    exact hle
theorem Strs.prefix {w : World} {a : Option Addr} {c c' : Nat} {L : List ByteArray} {k : Nat} (h : Strs w (.slice a L.length c) L) (hk : k + 1 ≤ L.length) : Strs w (.slice a (k + 1 : Nat) c') (L.take (k + 1)) := by
  have hl : (L.take (k + 1)).length = k + 1 := by rw [List.length_take]; omega
  rcases h with ⟨_, _, _, rfl⟩ | ⟨b, off, cap, e, h0, hb, hc⟩
  · simp at hk
  · cases e
    refine .inr ⟨b, off, c', by rw [hl], by omega, hb, fun j hj => ?_⟩
    rw [hc j (by omega)]
    simp [List.getD, List.getElem?_take]
    rw [if_pos (by omega)]
theorem rowAt_take (L : List ByteArray) (k j : Nat) (hj : j < k) : rowAt (L.take k) j = rowAt L j := by
  unfold rowAt
  simp [List.getD, List.getElem?_take]
  rw [if_pos hj]
theorem sumN_take (L : List ByteArray) (m : Nat) : ∀ k, k ≤ m → sumN (L.take m) k = sumN L k
  | 0, _ => rfl
  | k + 1, h => by rw [sumN, sumN, sumN_take L m k (by omega), rowAt_take L m k (by omega)]

set_option maxRecDepth 100000 in
set_option maxHeartbeats 8000000 in
theorem implRows_any (p : Nat → Addr) (c : Int) (v : Value) (L : List ByteArray) (g y : Int) (w : World) (hs : Sent w p) (hc : -32768 ≤ c ∧ c ≤ 32767) (h : Strs w v L) (hn : L.length ≤ 1048576) (hsz : ∀ j, j < L.length → (rowAt L j).size ≤ 1048576) :
    Calls Tryd.prog 44 #[.agg #[.int .i16 c, v], .int .i64 g, .int .i64 y] w fun e w' => e = .returned (.tuple #[.int .i64 (rowsF c L g y).1, .int .i64 (rowsF c L g y).2]) ∧ Below w.heap.size w w' := by
  have B0 : Hid (Below w.heap.size w ((w.alloc (.cells #[.int .i16 c, v] 28)).alloc (.cells #[.iface 105 (.agg #[.int .i64 g, .int .i64 1, .int .i64 100]), .iface 105 (.agg #[.int .i64 y, .int .i64 0, .int .i64 1000000])] 143))) := ((Below.refl w.heap.size w).alloc (Nat.le_refl _) _).alloc (by simp) _
  have cw : Hid (((w.alloc (.cells #[.int .i16 c, v] 28)).alloc (.cells #[.iface 105 (.agg #[.int .i64 g, .int .i64 1, .int .i64 100]), .iface 105 (.agg #[.int .i64 y, .int .i64 0, .int .i64 1000000])] 143)).cell? ⟨w.heap.size + 1, 0, none⟩ = some (.iface 105 (.agg #[.int .i64 g, .int .i64 1, .int .i64 100]))) := Lib.hid (by simp [go_sem])
  have cx : Hid (((w.alloc (.cells #[.int .i16 c, v] 28)).alloc (.cells #[.iface 105 (.agg #[.int .i64 g, .int .i64 1, .int .i64 100]), .iface 105 (.agg #[.int .i64 y, .int .i64 0, .int .i64 1000000])] 143)).cell? ⟨w.heap.size + 1, 1, none⟩ = some (.iface 105 (.agg #[.int .i64 y, .int .i64 0, .int .i64 1000000]))) := Lib.hid (by simp [go_sem])
  have HS := Lib.hid (hs.below B0.out)
  have HP := Lib.hid (piece_any p c v L (.slice (some ⟨w.heap.size + 1, 0, none⟩) 2 2) (inB g 1 100 && inB y 0 1000000) _ HS.out hc (h.below B0.out) hn hsz (fun wx hB => check2_any p _ 2 g 1 100 y 0 1000000 wx (HS.out.below hB) (kept hB (by simp) cw.out) (kept hB (by simp) cx.out)))
  obtain ⟨fi, hfi⟩ : ∃ fi, fi = (inB g 1 100 && inB y 0 1000000) := ⟨_, rfl⟩
  have HY := Lib.hid (show rowsF c L g y = if askF c L fi = 0 then (if y - 4 * g * c < 0 then (0, 6) else (cntTo L g (y - 4 * g * c) L.length, 0)) else (0, askF c L fi) by rw [hfi]; rfl)
  generalize rowsF c L g y = R at *
  rw [← hfi] at HP
  obtain ⟨q, hq⟩ : ∃ q : Int, q = if fi = true then 0 else 2 := ⟨_, rfl⟩
  rw [← hq] at HP
  obtain ⟨a1, cp, rfl⟩ := h.len
  clear hs h hn hc HS cw cx
  go_enter Tryd.func44, Tryd.ntmps44
  go_wp2_with fail
  refine HP.out.mono ?_
  rintro e w1 ⟨hB, hR⟩
  have B1 := Lib.hid (B0.out.trans (hB.mono (by simp; omega)))
  rcases hR with ⟨hok, rfl⟩ | ⟨hok, rv, wv, rfl, ho1, ho2, _⟩
  · have HR := Lib.hid (HY.out.trans (show (if askF c L fi = 0 then (if y - 4 * g * c < 0 then ((0 : Int), (6 : Int)) else (cntTo L g (y - 4 * g * c) L.length, 0)) else (0, askF c L fi)) = ((0 : Int), (1 : Int)) by rw [show askF c L fi = 1 by simp [askF, hok]]; rfl))
    clear hB hok HP HY hq hfi hsz
    unfold pz
    go_wp2
    go_ret2
    rw [HR.out]
    exact ⟨rfl, B1.out.alloc B1.out.size _⟩
  · obtain ⟨wa, wc, rfl⟩ : ∃ wa wc, wv = .slice wa (wdsTo c L (L.length + 1)).length wc := ho2.ints.len
    generalize (wdsTo c L (L.length + 1)).length = m at *
    have HO := Lib.hid ho1.strs
    obtain ⟨ra, rc, rfl⟩ : ∃ ra rc, rv = .slice ra L.length rc := ho1.strs.len
    have hcap := ho1.cap
    cases fi with
    | false =>
      obtain rfl : q = 2 := hq
      have HR := Lib.hid (HY.out.trans (show (if askF c L false = 0 then (if y - 4 * g * c < 0 then ((0 : Int), (6 : Int)) else (cntTo L g (y - 4 * g * c) L.length, 0)) else (0, askF c L false)) = ((0 : Int), (2 : Int)) by rw [show askF c L false = 2 by simp [askF, hok]]; rfl))
      clear hB hok HP HY ho1 ho2 HO hfi hsz hcap
      go_wp2
      go_ret2
      rw [HR.out]
      exact ⟨rfl, B1.out.alloc B1.out.size _⟩
    | true =>
      obtain rfl : q = 0 := hq
      have HR := Lib.hid (HY.out.trans (show (if askF c L true = 0 then (if y - 4 * g * c < 0 then ((0 : Int), (6 : Int)) else (cntTo L g (y - 4 * g * c) L.length, 0)) else (0, askF c L true)) = (if y - 4 * g * c < 0 then ((0 : Int), (6 : Int)) else (cntTo L g (y - 4 * g * c) L.length, 0)) by rw [show askF c L true = 0 by simp [askF, hok]]; rfl))
      obtain ⟨hcb, hfine⟩ := okF_parts hok
      have hfb := hfi.symm
      rw [Bool.and_eq_true] at hfb
      have hgb := inB_of hfb.1
      have hyb := inB_of hfb.2
      have X0 := Lib.hid (hb3_at B1.out (.int .i64 c) (.slice ra L.length rc) (.slice wa m wc) 75)
      have HCY := Lib.hid fun wx => castYarn_any c g wx hcb.1 hcb.2 hgb.1 hgb.2
      have OA : Hid (Strs (w1.alloc (.cells #[.int .i64 c, .slice ra L.length rc, .slice wa m wc] 75)) (.slice ra L.length rc) L) := Lib.hid (HO.out.below ((Below.refl w1.heap.size w1).alloc (Nat.le_refl _) _))
      have hlen := fine_len hfine
      have HRY := Lib.hid fun k (hk : k + 1 ≤ L.length) c' wx (hx : Strs wx (.slice ra L.length rc) L) => rowsYarn_any (.slice ra (k + 1 : Nat) c') (L.take (k + 1)) g wx (hx.prefix hk) (by rw [List.length_take]; omega)
        (fun j hj => by rw [List.length_take] at hj; rw [rowAt_take L (k + 1) j (by omega)]; exact row_size hcb (k := j) fun i hi => hfine i (by omega))
        (fun j hj => by rw [List.length_take] at hj; rw [rowAt_take L (k + 1) j (by omega)]; exact (canB_parts (hfine j (by omega))).1) hgb.1 hgb.2
      have HTL := Lib.hid fun k (hk : k + 1 ≤ L.length) => show sumN (L.take (k + 1)) (L.take (k + 1)).length = sumN L (k + 1) by rw [show (L.take (k + 1)).length = k + 1 by rw [List.length_take]; omega]; exact sumN_take L (k + 1) (k + 1) (Nat.le_refl _)
      have hb1 := mul_bd (a := 4 * g) (b := c) (A := 400) (B := 60) (by omega) (by omega) (by omega) hcb.2
      obtain ⟨hy1, hy2⟩ := hyb
      clear hB hok HP HY ho1 ho2 HO hcb hfine hgb hfi hfb hsz
      generalize 4 * g * c = q1 at *
      obtain ⟨ha1, ha2⟩ := hb1
      obtain ⟨n, hln⟩ : ∃ n, n = L.length := ⟨_, rfl⟩
      have HL := Lib.hid hln
      rw [← hln] at HRY HR OA X0 hlen HTL hcap
      have eL : (Value.slice ra L.length rc) = .slice ra n rc := by rw [HL.out]
      rw [eL]
      clear hln eL
      go_wp2_with fail
      generalize w1.alloc (.cells #[.int .i64 c, .slice ra n rc, .slice wa m wc] 75) = w2 at *
      generalize w1.heap.size = pb at *
      obtain ⟨p0, p1, p2, _, _⟩ := X0.out
      refine (HCY.out _).mono ?_
      rintro e w3 ⟨rfl, rfl⟩
      by_cases hneg : y - q1 < 0
      · have HR2 := Lib.hid (HR.out.trans (if_pos hneg))
        clear HR
        go_wp2
        go_ret2
        rw [HR2.out]
        exact ⟨rfl, X0.out.2.2.2.1⟩
      · have HR2 := Lib.hid (HR.out.trans (if_neg hneg))
        clear HR p0 p1 p2
        obtain ⟨l, hl⟩ : ∃ l, l = y - q1 := ⟨_, rfl⟩
        rw [← hl] at HR2
        have hl1 : 0 ≤ l := by omega
        have hl2 : l ≤ 1000000 := by omega
        have u1 : ∀ [Inhabited Nat], IntKind.i64.wrap (y - q1) = l := by intro _; rw [hl]; exact (IntWalk.i64_in _ (by omega)).trans (by omega)
        have u2 : ∀ [Inhabited Nat], wrap64 (y - q1) = l := by intro _; rw [hl]; exact (IntWalk.wrap64_in _ (by omega)).trans (by omega)
        have hneg2 : ¬ l < 0 := by omega
        clear hl hneg
        go_wp2_with fail
        go_loopw [11] (fun i wr => ∃ k : Nat, k ≤ n ∧ i = .int .i64 k ∧ Hid (Hb3 w wr pb (.int .i64 c) (.slice ra n rc) (.slice wa m wc)) ∧ Hid (Strs wr (.slice ra n rc) L) ∧ Hid (∀ j, j < k → g * sumN L (j + 1) ≤ l)) (fun i _ => n - (intOf i).toNat)
        case atStart => exact ⟨0, Nat.zero_le _, rfl, X0, OA, fun j hj => absurd hj (Nat.not_lt_zero j)⟩
        case round =>
          obtain ⟨k, hk, rfl, hX, hO, hA⟩ := hrel
          obtain ⟨p0, p1, p2, hB, _⟩ := hX.out
          by_cases hlt : k < n
          · have HR3 := Lib.hid fun c' => HRY.out k hlt c' wr hO.out
            rw [HTL.out k hlt] at HR3
            have HA2 : Hid (g * sumN L (k + 1) ≤ l → ∀ j, j < k + 1 → g * sumN L (j + 1) ≤ l) := fun h j hj => by
              by_cases e : j = k
              · rw [e]; exact h
              · exact hA.out j (by omega)
            have HC := Lib.hid fun hr => cntTo_at (n := n) hlt hA.out hr
            have hki : (k : Int) + 1 ≤ (rc : Int) := by omega
            have hkn : (k : Int) < (n : Int) := by omega
            generalize g * sumN L (k + 1) = z at *
            by_cases hz : z ≤ l
            · have HX := Lib.hid (HA2.out hz)
              clear HC HA2 hB
              go_wp2_with fail
              refine (HR3.out _).mono ?_
              rintro e w4 ⟨rfl, hB4⟩
              have X5 := Lib.hid (hb3_id (hb3_next hX.out hB4))
              have O5 := Lib.hid (hO.out.below hB4)
              clear hB4 p0 p1 p2
              go_wp2
              go_roundw
              case rel => exact ⟨k + 1, by omega, by go_num, X5, O5, HX⟩
              case measure => simp [intOf]; omega
            · have HX := Lib.hid (HC.out hz)
              clear HC HA2 hB
              go_wp2_with fail
              refine (HR3.out _).mono ?_
              rintro e w4 ⟨rfl, hB4⟩
              have X5 := Lib.hid (hb3_id (hb3_next hX.out hB4))
              clear hB4 p0 p1 p2
              go_wp2
              go_ret2
              rw [HR2.out, HX.out]
              exact ⟨rfl, X5.out.2.2.2.1⟩
          · have hkn : k = n := by omega
            subst hkn
            have HX := Lib.hid (cntTo_all (n := k) hA.out)
            clear hB
            go_wp2
            go_ret2
            rw [HR2.out, HX.out]
            exact ⟨rfl, hX.out.2.2.2.1⟩
end Go.Proofs.YtokngocokiekeaaDoor
