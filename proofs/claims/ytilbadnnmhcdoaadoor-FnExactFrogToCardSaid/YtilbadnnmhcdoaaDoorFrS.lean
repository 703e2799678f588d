/-
  No statement is proved here: FrogTo in the document's own text; condition: at most 1048576 rows of at most 1048576 bytes.
-/
import Derived.Test.YtilbadnnmhcdoaaDoorFrM
import Derived.Test.YtilbadnnmhcdoaaDoorFbO
namespace Go.Proofs.YtilbadnnmhcdoaaDoor
open Go.ChangeShapes Go.WideShapes Go.ChangeAt Go.RowKit

set_option maxRecDepth 100000 in
set_option maxHeartbeats 8000000 in
theorem specFrog_any (c : Int) (v : Value) (L : List ByteArray) (r g : Int) (w : World) (hc : -32768 ≤ c ∧ c ≤ 32767) (hC : StrsC w v L) (hn : L.length ≤ 1048576) (hsz : ∀ j, j < L.length → (rowAt L j).size ≤ 1048576) :
    Calls Tryd.prog 24 #[.agg #[.int .i16 c, v], .int .i64 r, .int .i64 g] w fun e w' => ∃ x, e = .returned (.tuple #[.agg #[.int .i16 (frogF c L r g).1.1, x], .int .i64 (frogF c L r g).2.1, .int .i64 (frogF c L r g).2.2]) ∧ OwnT w' w.heap.size x (frogF c L r g).1.2 ∧ Below w.heap.size w w' := by
  obtain ⟨W0, hW0⟩ : ∃ W0, W0 = (w.alloc (.cells #[.int .i16 c, v] 27)).alloc (.cells #[.int .i16 0, .slice none 0 0] 27) := ⟨_, rfl⟩
  have T0 := Lib.hid (show Below w.heap.size w W0 by rw [hW0]; go_grown)
  have b0 : W0.cell? ⟨w.heap.size, 0, none⟩ = some (.int .i16 c) := by rw [hW0]; simp [go_sem]
  have b1 : W0.cell? ⟨w.heap.size, 1, none⟩ = some v := by rw [hW0]; simp [go_sem]
  have r0 : W0.cell? ⟨w.heap.size + 1, 0, none⟩ = some (.int .i16 0) := by rw [hW0]; simp [go_sem]
  have r1 : W0.cell? ⟨w.heap.size + 1, 1, none⟩ = some (.slice none 0 0) := by rw [hW0]; simp [go_sem]
  have f0 : W0.frozen? ⟨w.heap.size + 1, 0, none⟩ = false := by rw [hW0]; simp [go_sem]
  have f1 : W0.frozen? ⟨w.heap.size + 1, 1, none⟩ = false := by rw [hW0]; simp [go_sem]
  have HZ := Lib.hid (show w.heap.size + 1 < W0.heap.size by rw [hW0]; simp)
  have HA := Lib.hid fun f => specAsked_any w.heap.size c v L f W0 b0 b1 hc (hC.1.below T0.out) hn hsz
  have HC := Lib.hid (hC.below T0.out)
  have HI := Lib.hid fun wx => in_any r 0 (L.length : Int) wx
  have HG := Lib.hid fun wx => specGauge_any g wx
  have HNo := Lib.hid (fun h => frogF_no (c := c) (L := L) (r := r) (g := g) h)
  have HYe := Lib.hid (fun h => frogF_yes (c := c) (L := L) (r := r) (g := g) h)
  obtain ⟨cs, q, rfl⟩ := hC.1.len
  have HW0 := Lib.hid hW0
  have B0 := Lib.hid b0
  have B1 := Lib.hid b1
  have R0 := Lib.hid r0
  have R1 := Lib.hid r1
  have F0 := Lib.hid f0
  have F1 := Lib.hid f1
  generalize frogF c L r g = res at *
  obtain ⟨⟨rcc, F⟩, y, cd⟩ := res
  dsimp only
  obtain ⟨n, hln⟩ : ∃ n, n = L.length := ⟨_, rfl⟩
  have hsrc : ∀ k, k < n → ∃ b off, cs = some ⟨b, off, none⟩ ∧ b < W0.heap.size ∧ W0.cell? ⟨b, off + k, none⟩ = some (.string (rowAt L k)) := by
    rw [hln]
    rcases HC.out.1 with ⟨_, _, _, rfl⟩ | ⟨b, off, cap, e, h0, hb, hc'⟩
    · intro k hk; simp at hk
    · simp only [Value.slice.injEq] at e
      obtain ⟨rfl, _, _⟩ := e
      exact fun k hk => ⟨b, off, rfl, hb, hc' k hk⟩
  have HSR := Lib.hid hsrc
  have HSO := Lib.hid fun (k : Nat) wx c0 c1 hx (hk : k ≤ n) => specOwn_any w.heap.size c k (.slice cs L.length q) L wx c0 c1 hx (by omega) hn
  have HSN := Lib.hid fun k => (show sumN L (k + 1) = sumN L k + needsF (rowAt L k) from rfl)
  have HOKP := Lib.hid fun (h : askF c L true = 0) => okF_parts (askF_zero h).1
  rw [← hln] at HI HNo HYe B1 HC HSO hn b1 ⊢
  rw [← hln] at HW0
  have HLN := Lib.hid hln
  clear hW0 hC r0 r1 f0 f1 hsz hc hln hsrc b0
  cases hi : inB r 0 (n : Int) with
  | false =>
    rw [hi] at HI HNo
    have h0 := askF_not c L
    have HA1 := Lib.hid (HA.out false)
    have hre := HNo.out (by rw [Bool.false_and]; exact h0)
    rw [Bool.false_and] at hre
    clear hi HG
    go_enter Tryd.func24, Tryd.ntmps24
    go_wp2_with fail
    rw [← HW0.out]
    refine (HI.out _).mono ?_
    rintro e w1 ⟨rfl, rfl⟩
    go_wp2_with fail
    refine HA1.out.mono ?_
    rintro e w2 ⟨rfl, nd, rfl⟩
    simp only [Prod.mk.injEq] at hre
    obtain ⟨⟨rfl, rfl⟩, rfl, rfl⟩ := hre
    have hne : (askF c L false != 0) = true := by rw [bne_iff_ne]; exact h0
    have r0 : (W0.drewN nd).cell? ⟨w.heap.size + 1, 0, none⟩ = some (.int .i16 0) := R0.out
    have r1 : (W0.drewN nd).cell? ⟨w.heap.size + 1, 1, none⟩ = some (.slice none 0 0) := R1.out
    have f0 : (W0.drewN nd).frozen? ⟨w.heap.size + 1, 0, none⟩ = false := F0.out
    have f1 : (W0.drewN nd).frozen? ⟨w.heap.size + 1, 1, none⟩ = false := F1.out
    have T1 := Lib.hid (T0.out.trans ((bdN W0 nd).mono T0.out.size))
    clear h0
    generalize hcd : askF c L false = cdd at *
    have HCD := Lib.hid hcd
    clear hcd
    generalize W0.drewN nd = w1 at *
    obtain ⟨e0, e1⟩ := res2 (.int .i16 0) (.slice none 0 0) r0 r1
    go_wp2_with fail
    refine bodyPost_ret (by simp [results, Tryd.results24, go_sem, e0, e1]; try rfl) rfl ?_
    rw [HCD.out]
    exact ⟨_, rfl, World.ownsRow_nil _ _ _ _, below_set (below_set T1.out (by omega) _) (by omega) _⟩
  | true =>
    rw [hi] at HI HNo HYe
    obtain ⟨hr1, hr2⟩ := inB_of hi
    cases hg : inB g 1 100 with
    | false =>
      rw [hg] at HG HNo
      have h0 := askF_not c L
      have HA1 := Lib.hid (HA.out false)
      have hre := HNo.out (by rw [Bool.and_false]; exact h0)
      rw [Bool.and_false] at hre
      clear hi hg
      go_enter Tryd.func24, Tryd.ntmps24
      go_wp2_with fail
      rw [← HW0.out]
      refine (HI.out _).mono ?_
      rintro e w1 ⟨rfl, rfl⟩
      go_wp2_with fail
      refine (HG.out _).mono ?_
      rintro e w1 ⟨rfl, rfl⟩
      go_wp2_with fail
      refine HA1.out.mono ?_
      rintro e w2 ⟨rfl, nd, rfl⟩
      simp only [Prod.mk.injEq] at hre
      obtain ⟨⟨rfl, rfl⟩, rfl, rfl⟩ := hre
      have hne : (askF c L false != 0) = true := by rw [bne_iff_ne]; exact h0
      have r0 : (W0.drewN nd).cell? ⟨w.heap.size + 1, 0, none⟩ = some (.int .i16 0) := R0.out
      have r1 : (W0.drewN nd).cell? ⟨w.heap.size + 1, 1, none⟩ = some (.slice none 0 0) := R1.out
      have f0 : (W0.drewN nd).frozen? ⟨w.heap.size + 1, 0, none⟩ = false := F0.out
      have f1 : (W0.drewN nd).frozen? ⟨w.heap.size + 1, 1, none⟩ = false := F1.out
      have T1 := Lib.hid (T0.out.trans ((bdN W0 nd).mono T0.out.size))
      clear h0
      generalize hcd : askF c L false = cdd at *
      have HCD := Lib.hid hcd
      clear hcd
      generalize W0.drewN nd = w1 at *
      obtain ⟨e0, e1⟩ := res2 (.int .i16 0) (.slice none 0 0) r0 r1
      go_wp2_with fail
      refine bodyPost_ret (by simp [results, Tryd.results24, go_sem, e0, e1]; try rfl) rfl ?_
      rw [HCD.out]
      exact ⟨_, rfl, World.ownsRow_nil _ _ _ _, below_set (below_set T1.out (by omega) _) (by omega) _⟩
    | true =>
      rw [hg] at HG HNo HYe
      obtain ⟨hg1, hg2⟩ := inB_of hg
      have HA1 := Lib.hid (HA.out true)
      clear hi hg HA
      by_cases h0 : askF c L true = 0
      · have hre := HYe.out (by rw [Bool.and_true]; exact h0)
        obtain ⟨hcb, hfine⟩ := HOKP.out h0
        rw [h0] at HA1
        clear HNo HYe HOKP
        simp only [Prod.mk.injEq] at hre
        obtain ⟨⟨rfl, rfl⟩, rfl, rfl⟩ := hre
        obtain ⟨R, rfl⟩ : ∃ R : Nat, r = (R : Int) := ⟨r.toNat, by omega⟩
        rw [Int.toNat_natCast]
        have hlen := fine_len hfine
        have HS2 := Lib.hid fun k (hk : k < L.length) => row_size hcb (k := k) fun j hj => hfine j (by omega)
        have HSB := Lib.hid fun k (hk : k ≤ L.length) => sumN_bd (L := L) (k := k) fun j hj => HS2.out j (by omega)
        have HNB := Lib.hid fun k => show 0 ≤ needsF (rowAt L k) ∧ needsF (rowAt L k) ≤ 6 * (rowAt L k).size from needs_bd (rowAt L k) (rowAt L k).size
        have HMN := Lib.hid (sumN_from L R)
        rw [← HLN.out] at HS2 HSB hlen
        have hRn : R ≤ n := by omega
        obtain ⟨hc1, hc2⟩ := hcb
        clear hfine h0
        go_enter Tryd.func24, Tryd.ntmps24
        go_wp2_with fail
        rw [← HW0.out]
        refine (HI.out _).mono ?_
        rintro e w1 ⟨rfl, rfl⟩
        go_wp2_with fail
        refine (HG.out _).mono ?_
        rintro e w1 ⟨rfl, rfl⟩
        go_wp2_with fail
        refine HA1.out.mono ?_
        rintro e w2 ⟨rfl, nd, rfl⟩
        have b0 : (W0.drewN nd).cell? ⟨w.heap.size, 0, none⟩ = some (.int .i16 rcc) := B0.out
        have b1' : (W0.drewN nd).cell? ⟨w.heap.size, 1, none⟩ = some (.slice cs n q) := B1.out
        have T1 := Lib.hid (T0.out.trans ((bdN W0 nd).mono T0.out.size))
        have C1 : Hid (StrsC (W0.drewN nd) (.slice cs n q) L) := Lib.hid (HC.out.below (bdN W0 nd))
        have SR1 : Hid (∀ k, k < n → ∃ b off, cs = some ⟨b, off, none⟩ ∧ b < (W0.drewN nd).heap.size ∧ (W0.drewN nd).cell? ⟨b, off + k, none⟩ = some (.string (rowAt L k))) := HSR
        have r0 : Hid ((W0.drewN nd).cell? ⟨w.heap.size + 1, 0, none⟩ = some (.int .i16 0)) := R0
        have r1 : Hid ((W0.drewN nd).cell? ⟨w.heap.size + 1, 1, none⟩ = some (.slice none 0 0)) := R1
        have f0 : Hid ((W0.drewN nd).frozen? ⟨w.heap.size + 1, 0, none⟩ = false) := F0
        have f1 : Hid ((W0.drewN nd).frozen? ⟨w.heap.size + 1, 1, none⟩ = false) := F1
        have Z1 : Hid (w.heap.size + 1 < (W0.drewN nd).heap.size) := HZ
        clear HSR HC T0 R0 R1 F0 F1 HZ HA1 B0 B1 b1 HW0 HI HG
        generalize W0.drewN nd = w1 at *
        go_wp2_with fail
        go_loop [10, 11] (fun t i => ∃ k : Nat, R ≤ k ∧ k ≤ n ∧ i = .int .i64 k ∧ t = .int .i64 (sumN L k - sumN L R)) (fun _ i => n - (intOf i).toNat)
        case atStart => exact ⟨R, Nat.le_refl _, hRn, rfl, by simp⟩
        case round =>
          obtain ⟨k, hRk, hk, rfl, rfl⟩ := hrel
          have hb2 := HSB.out k hk
          have hb3 := HMN.out k hRk
          have hb4 := (HSB.out R hRn).1
          by_cases hlt : k < n
          · have hltI : (k : Int) < (n : Int) := by omega
            obtain ⟨b, off, rfl, hbw, hcell⟩ := SR1.out k hlt
            have hs1 := HS2.out k hlt
            have HN := Lib.hid fun wx => specNeeds_any (rowAt L k) wx (by omega)
            have hnb := HNB.out k
            have HT2 := Lib.hid (HSN.out k)
            generalize rowAt L k = s at *
            generalize needsF s = yy at *
            generalize sumN L k = m at *
            generalize sumN L R = m0 at *
            have hsb : (s.size : Int) ≤ 120 := by omega
            clear hbw
            go_wp2_with fail
            refine (HN.out _).mono ?_
            rintro e w3 ⟨rfl, rfl⟩
            go_wp2
            go_round
            case rel => exact ⟨k + 1, by omega, by omega, by go_num, by rw [HT2.out]; go_num⟩
            case measure => simp [intOf]; omega
          · have hkn : k = n := by omega
            subst hkn
            have HCL := Lib.hid (HSO.out R _ b0 b1' C1.out hRk)
            generalize hm : sumN L k = m at *
            generalize hm0 : sumN L R = m0 at *
            have HM := Lib.hid hm
            have HM0 := Lib.hid hm0
            clear hm hm0
            have hmb := mul_bd (a := m - m0) (b := g) (A := 30000) (B := 100) (by omega) (by omega) (by omega) (by omega)
            have u1 : ∀ [Inhabited Nat], IntKind.i64.wrap ((m - m0) * g) = (m - m0) * g := by intro _; exact (IntWalk.i64_in _ (by omega)).trans (by omega)
            have u2 : ∀ [Inhabited Nat], wrap64 ((m - m0) * g) = (m - m0) * g := by intro _; exact (IntWalk.wrap64_in _ (by omega)).trans (by omega)
            go_wp2_with fail
            refine HCL.out.mono ?_
            rintro e w4 ⟨x, rfl, own, hB⟩
            obtain ⟨xa, xn, xc, rfl⟩ := own_slice own.row
            have r0' := kept hB Z1.out r0.out
            have r1' := kept hB Z1.out r1.out
            have f0' := (hB.frozen (p := ⟨w.heap.size + 1, 0, none⟩) Z1.out).trans f0.out
            have f1' := (hB.frozen (p := ⟨w.heap.size + 1, 1, none⟩) Z1.out).trans f1.out
            have HT4 := Lib.hid (T1.out.trans (hB.mono T1.out.size))
            have HO4 := Lib.hid own
            obtain ⟨e0, e1⟩ := res2 (.int .i16 rcc) (.slice xa xn xc) r0' r1'
            clear hB own hb2 hb3
            go_wp2_with fail
            refine bodyPost_ret (by simp [results, Tryd.results24, go_sem, e0, e1]; try rfl) rfl ?_
            rw [HM.out, HM0.out]
            exact ⟨_, rfl, OwnT.mono (base := w1.heap.size) (ownsRow_setCell_below (ownsRow_setCell_below HO4.out Z1.out _) Z1.out _) (by have := Z1.out; omega), below_set (below_set HT4.out (by omega) _) (by omega) _⟩
      · have hre := HNo.out (by rw [Bool.and_true]; exact h0)
        rw [Bool.and_true] at hre
        go_enter Tryd.func24, Tryd.ntmps24
        go_wp2_with fail
        rw [← HW0.out]
        refine (HI.out _).mono ?_
        rintro e w1 ⟨rfl, rfl⟩
        go_wp2_with fail
        refine (HG.out _).mono ?_
        rintro e w1 ⟨rfl, rfl⟩
        go_wp2_with fail
        refine HA1.out.mono ?_
        rintro e w2 ⟨rfl, nd, rfl⟩
        simp only [Prod.mk.injEq] at hre
        obtain ⟨⟨rfl, rfl⟩, rfl, rfl⟩ := hre
        have hne : (askF c L true != 0) = true := by rw [bne_iff_ne]; exact h0
        have r0 : (W0.drewN nd).cell? ⟨w.heap.size + 1, 0, none⟩ = some (.int .i16 0) := R0.out
        have r1 : (W0.drewN nd).cell? ⟨w.heap.size + 1, 1, none⟩ = some (.slice none 0 0) := R1.out
        have f0 : (W0.drewN nd).frozen? ⟨w.heap.size + 1, 0, none⟩ = false := F0.out
        have f1 : (W0.drewN nd).frozen? ⟨w.heap.size + 1, 1, none⟩ = false := F1.out
        have T1 := Lib.hid (T0.out.trans ((bdN W0 nd).mono T0.out.size))
        clear h0
        generalize hcd : askF c L true = cdd at *
        have HCD := Lib.hid hcd
        clear hcd
        generalize W0.drewN nd = w1 at *
        obtain ⟨e0, e1⟩ := res2 (.int .i16 0) (.slice none 0 0) r0 r1
        go_wp2_with fail
        refine bodyPost_ret (by simp [results, Tryd.results24, go_sem, e0, e1]; try rfl) rfl ?_
        rw [HCD.out]
        exact ⟨_, rfl, World.ownsRow_nil _ _ _ _, below_set (below_set T1.out (by omega) _) (by omega) _⟩
end Go.Proofs.YtilbadnnmhcdoaaDoor
