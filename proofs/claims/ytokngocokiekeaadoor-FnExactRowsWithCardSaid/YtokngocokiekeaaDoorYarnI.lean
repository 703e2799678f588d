/-
  No statement is proved here: how much yarn a fabric needs, in the program; condition: its errors lie where its text lays them; at most 1048576 rows of at most 1048576 bytes.
-/
import Derived.Test.YtokngocokiekeaaDoorYarnS
import Derived.Test.YtokngocokiekeaaDoorKnitP
namespace Go.Proofs.YtokngocokiekeaaDoor
open Go.ChangeShapes Go.WideShapes Go.ChangeAt Go.RowKit

set_option maxRecDepth 100000 in
set_option maxHeartbeats 4000000 in
theorem rowsYarn_any (v : Value) (M : List ByteArray) (g : Int) (w : World) (h : Strs w v M) (hn : M.length ≤ 30) (hs : ∀ j, j < M.length → (rowAt M j).size ≤ 120) (ha : ∀ j, j < M.length → allSt (rowAt M j) = true) (hg1 : 1 ≤ g) (hg2 : g ≤ 100) :
    Calls Tryd.prog 81 #[v, .int .i64 g] w fun e w' => e = .returned (.int .i64 (g * sumN M M.length)) ∧ Below w.heap.size w w' := by
  have HSrc : Hid (∃ a1 cp, v = .slice a1 M.length cp ∧ ∀ k, k < M.length → ∃ b off, a1 = some ⟨b, off, none⟩ ∧ b < w.heap.size ∧ w.cell? ⟨b, off + k, none⟩ = some (.string (rowAt M k))) := by
    rcases h with ⟨a1, cp, rfl, rfl⟩ | ⟨b, off, cap, rfl, h0, hb, hc⟩
    · exact ⟨a1, cp, rfl, fun k hk => absurd hk (Nat.not_lt_zero k)⟩
    · exact ⟨_, cap, rfl, fun k hk => ⟨b, off, rfl, hb, hc k hk⟩⟩
  obtain ⟨a1, cp, rfl, hsrc⟩ := HSrc.out
  have HSR := Lib.hid hsrc
  have HS2 := Lib.hid hs
  have HA := Lib.hid ha
  have HSB := Lib.hid fun k (hk : k ≤ M.length) => sumN_bd (L := M) (k := k) fun j hj => hs j (by omega)
  have HST := Lib.hid fun k => show g * sumN M (k + 1) = g * sumN M k + g * needsF (rowAt M k) from Int.mul_add g _ _
  have HNB := Lib.hid fun k => show 0 ≤ needsF (rowAt M k) ∧ needsF (rowAt M k) ≤ 6 * (rowAt M k).size from needs_bd (rowAt M k) (rowAt M k).size
  have HZ := Lib.hid (show g * sumN M 0 = 0 by simp [sumN])
  obtain ⟨R, hR⟩ : ∃ R, R = g * sumN M M.length := ⟨_, rfl⟩
  have HR := Lib.hid hR
  rw [← hR]
  clear hR
  obtain ⟨n, hln⟩ : ∃ n, n = M.length := ⟨_, rfl⟩
  rw [← hln] at HSR hn HS2 HA HSB HR ⊢
  clear h hs ha HSrc hsrc hln
  have HGB := Lib.hid fun k (hk : k ≤ n) => mul_bd (a := g) (b := sumN M k) (A := 100) (B := 720 * k) (by omega) hg2 (HSB.out k hk).1 (HSB.out k hk).2
  go_enter Tryd.func81, Tryd.ntmps81
  go_wp2_with fail
  go_loopw [5, 10] (fun t i wr => ∃ k : Nat, k ≤ n ∧ i = .int .i64 k ∧ t = .int .i64 (g * sumN M k) ∧ Hid (Below w.heap.size w wr)) (fun _ i _ => n - (intOf i).toNat)
  case atStart => exact ⟨0, Nat.zero_le _, rfl, by rw [HZ.out], Below.refl _ _⟩
  case round =>
    obtain ⟨k, hk, rfl, rfl, hB⟩ := hrel
    have hb2 := HGB.out k hk
    by_cases hlt : k < n
    · obtain ⟨b, off, rfl, hbw, hcell⟩ := HSR.out k hlt
      have c1 : wr.cell? ⟨b, off + k, none⟩ = some (.string (rowAt M k)) := kept hB.out hbw hcell
      have hsz := HS2.out k hlt
      have HN := Lib.hid fun wx => yarn_total (rowAt M k) wx (HA.out k hlt) (by omega)
      have hnb := HNB.out k
      have HT2 := Lib.hid (HST.out k)
      generalize rowAt M k = s at *
      generalize needsF s = y at *
      have hyb := mul_bd (a := g) (b := y) (A := 100) (B := 720) (by omega) hg2 hnb.1 (by omega)
      generalize g * sumN M k = m at *
      obtain ⟨q, hq⟩ : ∃ q, q = g * y := ⟨_, rfl⟩
      rw [← hq] at hyb HT2
      have u1 : ∀ [Inhabited Nat], IntKind.i64.wrap (g * y) = q := by intro _; rw [← hq]; exact (IntWalk.i64_in _ (by omega)).trans (by omega)
      have u2 : ∀ [Inhabited Nat], wrap64 (g * y) = q := by intro _; rw [← hq]; exact (IntWalk.wrap64_in _ (by omega)).trans (by omega)
      have hkn : (k : Int) ≤ 30 := by omega
      clear hcell hq
      go_wp2_with fail
      refine (HN.out _).mono ?_
      rintro e w3 ⟨rfl, hB3⟩
      have B4 := Lib.hid (hB.out.trans (hB3.mono hB.out.size))
      clear hB3
      go_wp2
      go_roundw
      case rel => exact ⟨k + 1, by omega, by go_num, by rw [HT2.out], B4⟩
      case measure => simp [intOf]; omega
    · have hkn : k = n := by omega
      subst hkn
      have HR2 := HR
      clear HR
      generalize g * sumN M k = m at *
      go_wp2
      go_ret
      exact ⟨ret_int HR2.out.symm, hB.out⟩

set_option maxHeartbeats 1000000 in
theorem castYarn_any (c g : Int) (w : World) (hc1 : 1 ≤ c) (hc2 : c ≤ 60) (hg1 : 1 ≤ g) (hg2 : g ≤ 100) :
    Calls Tryd.prog 80 #[.int .i64 c, .int .i64 g] w fun e w' => e = .returned (.int .i64 (4 * g * c)) ∧ w = w' := by
  have hb := mul_bd (a := 4 * g) (b := c) (A := 400) (B := 60) (by omega) (by omega) (by omega) hc2
  obtain ⟨q, hq⟩ : ∃ q, q = 4 * g * c := ⟨_, rfl⟩
  rw [← hq] at hb ⊢
  have u1 : ∀ [Inhabited Nat], IntKind.i64.wrap (4 * g * c) = q := by intro _; rw [← hq]; exact (IntWalk.i64_in _ (by omega)).trans (by omega)
  have u2 : ∀ [Inhabited Nat], wrap64 (4 * g * c) = q := by intro _; rw [← hq]; exact (IntWalk.wrap64_in _ (by omega)).trans (by omega)
  clear hq
  go_enter Tryd.func80, Tryd.ntmps80
  go_wp2
  go_ret
  exact ⟨rfl, rfl⟩

theorem hb3_at {w W : World} (h : Below w.heap.size w W) (x y z : Value) (t : TypeId) : Hb3 w (W.alloc (.cells #[x, y, z] t)) W.heap.size x y z := ⟨by simp [go_sem], by simp [go_sem], by simp [go_sem], h.alloc h.size _, by simp⟩
theorem yarn_same (c g S : Int) : (4 * c + S) * g = 4 * g * c + g * S := by
  rw [Int.add_mul, Int.mul_comm S g, Int.mul_assoc, Int.mul_assoc, Int.mul_comm c g]

set_option maxRecDepth 100000 in
set_option maxHeartbeats 8000000 in
theorem implYarn_any (p : Nat → Addr) (c : Int) (v : Value) (L : List ByteArray) (g : Int) (w : World) (hs : Sent w p) (hc : -32768 ≤ c ∧ c ≤ 32767) (h : Strs w v L) (hn : L.length ≤ 1048576) (hsz : ∀ j, j < L.length → (rowAt L j).size ≤ 1048576) :
    Calls Tryd.prog 42 #[.agg #[.int .i16 c, v], .int .i64 g] w fun e w' => e = .returned (.tuple #[.int .i64 (yarnF c L g).1, .int .i64 (yarnF c L g).2]) ∧ Below w.heap.size w w' := by
  have B0 : Hid (Below w.heap.size w ((w.alloc (.cells #[.int .i16 c, v] 28)).alloc (.cells #[.iface 105 (.agg #[.int .i64 g, .int .i64 1, .int .i64 100])] 143))) := ((Below.refl w.heap.size w).alloc (Nat.le_refl _) _).alloc (by simp) _
  have cw : Hid (((w.alloc (.cells #[.int .i16 c, v] 28)).alloc (.cells #[.iface 105 (.agg #[.int .i64 g, .int .i64 1, .int .i64 100])] 143)).cell? ⟨w.heap.size + 1, 0, none⟩ = some (.iface 105 (.agg #[.int .i64 g, .int .i64 1, .int .i64 100]))) := Lib.hid (by simp [go_sem])
  have HS := Lib.hid (hs.below B0.out)
  have HP := Lib.hid (piece_any p c v L (.slice (some ⟨w.heap.size + 1, 0, none⟩) 1 1) (inB g 1 100) _ HS.out hc (h.below B0.out) hn hsz (fun wx hB => check1_any p _ 1 g 1 100 wx (HS.out.below hB) (kept hB (by simp) cw.out)))
  obtain ⟨fi, hfi⟩ : ∃ fi, fi = inB g 1 100 := ⟨_, rfl⟩
  have HY := Lib.hid (show yarnF c L g = if askF c L fi = 0 then ((4 * c + sumN L L.length) * g, 0) else (0, askF c L fi) by rw [hfi]; rfl)
  generalize yarnF c L g = R at *
  rw [← hfi] at HP
  obtain ⟨q, hq⟩ : ∃ q : Int, q = if fi = true then 0 else 2 := ⟨_, rfl⟩
  rw [← hq] at HP
  obtain ⟨a1, cp, rfl⟩ := h.len
  clear hs h hn hc HS cw
  go_enter Tryd.func42, Tryd.ntmps42
  go_wp2_with fail
  refine HP.out.mono ?_
  rintro e w1 ⟨hB, hR⟩
  have B1 := Lib.hid (B0.out.trans (hB.mono (by simp; omega)))
  rcases hR with ⟨hok, rfl⟩ | ⟨hok, rv, wv, rfl, ho1, ho2, _⟩
  · have HR := Lib.hid (HY.out.trans (show (if askF c L fi = 0 then ((4 * c + sumN L L.length) * g, (0 : Int)) else (0, askF c L fi)) = ((0 : Int), (1 : Int)) by rw [show askF c L fi = 1 by simp [askF, hok]]; rfl))
    clear hB hok HP HY
    unfold pz
    go_wp2
    go_ret2
    rw [HR.out]
    exact ⟨rfl, B1.out.alloc B1.out.size _⟩
  · obtain ⟨wa, wc, rfl⟩ : ∃ wa wc, wv = .slice wa (wdsTo c L (L.length + 1)).length wc := ho2.ints.len
    generalize (wdsTo c L (L.length + 1)).length = m at *
    have HO := Lib.hid ho1.strs
    obtain ⟨ra, rc, rfl⟩ : ∃ ra rc, rv = .slice ra L.length rc := ho1.strs.len
    cases fi with
    | false =>
      obtain rfl : q = 2 := hq
      have HR := Lib.hid (HY.out.trans (show (if askF c L false = 0 then ((4 * c + sumN L L.length) * g, (0 : Int)) else (0, askF c L false)) = ((0 : Int), (2 : Int)) by rw [show askF c L false = 2 by simp [askF, hok]]; rfl))
      clear hB hok HP HY ho1 ho2 HO hfi hsz
      go_wp2
      go_ret2
      rw [HR.out]
      exact ⟨rfl, B1.out.alloc B1.out.size _⟩
    | true =>
      obtain rfl : q = 0 := hq
      have HR := Lib.hid (HY.out.trans (show (if askF c L true = 0 then ((4 * c + sumN L L.length) * g, (0 : Int)) else (0, askF c L true)) = ((4 * c + sumN L L.length) * g, (0 : Int)) by rw [show askF c L true = 0 by simp [askF, hok]]; rfl))
      obtain ⟨hcb, hfine⟩ := okF_parts hok
      have hgb := inB_of hfi.symm
      have X0 := Lib.hid (hb3_at B1.out (.int .i64 c) (.slice ra L.length rc) (.slice wa m wc) 75)
      have X1 := Lib.hid (hb3_id (hb3_drew X0.out))
      have HCY := Lib.hid fun wx => castYarn_any c g wx hcb.1 hcb.2 hgb.1 hgb.2
      have OA : Hid (Strs (w1.alloc (.cells #[.int .i64 c, .slice ra L.length rc, .slice wa m wc] 75)).drew (.slice ra L.length rc) L) := Lib.hid ((HO.out.below ((Below.refl w1.heap.size w1).alloc (Nat.le_refl _) _)).below (Below.refl _ _).drew)
      have HRY := Lib.hid (rowsYarn_any (.slice ra L.length rc) L g _ OA.out (fine_len hfine) (fun k hk => row_size hcb (k := k) fun j hj => hfine j (by omega)) (fun k hk => (canB_parts (hfine k hk)).1) hgb.1 hgb.2)
      have hb1 := mul_bd (a := 4 * g) (b := c) (A := 400) (B := 60) (by omega) (by omega) (by omega) hcb.2
      have hb2 := sumN_bd (L := L) (k := L.length) fun k hk => row_size hcb (k := k) fun j hj => hfine j (by omega)
      have hl30 := fine_len hfine
      have hb3 := mul_bd (a := g) (b := sumN L L.length) (A := 100) (B := 21600) (by omega) (by omega) hb2.1 (by omega)
      rw [yarn_same] at HR
      clear hB hok HP HY ho1 ho2 HO hcb hfine hgb hb2 hl30 hfi
      generalize 4 * g * c = q1 at *
      generalize g * sumN L L.length = q2 at *
      obtain ⟨ha1, ha2⟩ := hb1
      obtain ⟨hd1, hd2⟩ := hb3
      have u1 : ∀ [Inhabited Nat], IntKind.i64.wrap (q1 + q2) = q1 + q2 := by intro _; exact (IntWalk.i64_in _ (by omega)).trans (by omega)
      have u2 : ∀ [Inhabited Nat], wrap64 (q1 + q2) = q1 + q2 := by intro _; exact (IntWalk.wrap64_in _ (by omega)).trans (by omega)
      go_wp2_with fail
      go_region_held3 (fun w' => w'.cell? ⟨w1.heap.size, 0, none⟩ = some (.int .i64 c) ∧ w'.cell? ⟨w1.heap.size, 1, none⟩ = some (.slice ra L.length rc) ∧ w'.cell? ⟨w1.heap.size, 2, none⟩ = some (.slice wa m wc) ∧ Below w.heap.size w w' ∧ w1.heap.size < w'.heap.size)
        (first | assumption | exact hb3_raw X1.out | (refine hb3_next ?_ hB4; assumption))
        (first | (go_at_call 80; refine (HCY.out _).mono ?_; rintro e w3 ⟨rfl, rfl⟩) | (go_at_call 81; refine HRY.out.mono ?_; rintro e w4 ⟨rfl, hB4⟩) | fail)
      all_goals
        have HE := Lib.hid (hb3_below (w := w) (b := w1.heap.size) (by assumption))
        go_wp2
        go_ret2
        rw [HR.out]
        exact ⟨rfl, HE.out⟩
end Go.Proofs.YtokngocokiekeaaDoor
