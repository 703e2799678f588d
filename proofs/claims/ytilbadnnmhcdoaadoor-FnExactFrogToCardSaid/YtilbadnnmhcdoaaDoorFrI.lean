/-
  No statement is proved here: FrogTo in the program; condition: its errors lie where its text lays them; at most 1048576 rows of at most 1048576 bytes.
-/
import Derived.Test.YtilbadnnmhcdoaaDoorFrC
import Derived.Deep.RegionHeld3
namespace Go.Proofs.YtilbadnnmhcdoaaDoor
open Go.ChangeShapes Go.WideShapes Go.ChangeAt Go.RowKit

theorem frKeep {W : World} {b pb : Nat} {u x v1 v2 : Value} (h : W.cell? ⟨b, 0, none⟩ = some u ∧ W.cell? ⟨pb, 1, none⟩ = some x) (hp : b + 1 < pb) : ((W.setCell ⟨b + 1, 0, none⟩ v1).setCell ⟨b + 1, 1, none⟩ v2).cell? ⟨b, 0, none⟩ = some u ∧ ((W.setCell ⟨b + 1, 0, none⟩ v1).setCell ⟨b + 1, 1, none⟩ v2).cell? ⟨pb, 1, none⟩ = some x := by
  have h1 : pb ≠ b + 1 := by omega
  constructor
  · simpa [go_sem] using h.1
  · simpa [go_sem, h1, h1.symm] using h.2
theorem strs_nil {w : World} {a : Option Addr} {c : Nat} {M : List ByteArray} (h : M = []) : Strs w (.slice a 0 c) M := .inl ⟨a, c, rfl, h⟩
theorem strs_if {w : World} {g n c R : Nat} {L : List ByteArray} {C : Prop} [Decidable C] (h : Strs w (.slice (some ⟨g, 0, none⟩) n c) L) (hn : n = L.length) (hR : R ≤ n) (hC : C → n ≤ R) : Strs w (.slice (if C then some ⟨g, 0, none⟩ else some ⟨g, R, none⟩) (n - R) (c - R)) (L.drop R) := by
  split
  · rename_i hh
    have := hC hh
    rw [show n - R = 0 by omega]
    exact strs_nil (List.drop_eq_nil_of_le (by omega))
  · have := strs_drop (c' := c - R) h hn hR
    rwa [Nat.zero_add] at this
/-- The boxes that FrogTo looks at, in a world behind W0. -/
def FrB (w0 : World) (b pb rb : Nat) (u x y0 y1 : Value) (W : World) : Prop :=
  W.cell? ⟨b, 0, none⟩ = some u ∧ W.cell? ⟨pb, 1, none⟩ = some x ∧ W.cell? ⟨rb, 0, none⟩ = some y0 ∧ W.cell? ⟨rb, 1, none⟩ = some y1 ∧ W.frozen? ⟨rb, 0, none⟩ = false ∧ W.frozen? ⟨rb, 1, none⟩ = false ∧ Below w0.heap.size w0 W ∧ b < W.heap.size ∧ pb < W.heap.size ∧ rb < W.heap.size
theorem FrB.next {w0 W w' : World} {b pb rb : Nat} {u x y0 y1 : Value} (h : FrB w0 b pb rb u x y0 y1 W) (hB : Below W.heap.size W w') : FrB w0 b pb rb u x y0 y1 w' := by
  obtain ⟨h1, h2, h3, h4, h5, h6, h7, h8, h9, h10⟩ := h
  exact ⟨kept hB h8 h1, kept hB h9 h2, kept hB h10 h3, kept hB h10 h4, (hB.frozen (p := ⟨rb, 0, none⟩) h10).trans h5, (hB.frozen (p := ⟨rb, 1, none⟩) h10).trans h6, h7.trans (hB.mono h7.size), Nat.lt_of_lt_of_le h8 hB.size, Nat.lt_of_lt_of_le h9 hB.size, Nat.lt_of_lt_of_le h10 hB.size⟩
theorem FrB.under {w0 W : World} {b pb rb : Nat} {u x y0 y1 : Value} (h : FrB w0 b pb rb u x y0 y1 W) : Below w0.heap.size w0 W := h.2.2.2.2.2.2.1
theorem FrB.pbz {w0 W : World} {b pb rb : Nat} {u x y0 y1 : Value} (h : FrB w0 b pb rb u x y0 y1 W) : pb < W.heap.size := h.2.2.2.2.2.2.2.2.1

set_option maxRecDepth 100000 in
set_option maxHeartbeats 16000000 in
theorem implFrog_any (p : Nat → Addr) (c : Int) (v : Value) (L : List ByteArray) (r g : Int) (w : World) (hs : Sent w p) (hc : -32768 ≤ c ∧ c ≤ 32767) (hC : StrsC w v L) (hn : L.length ≤ 1048576) (hsz : ∀ j, j < L.length → (rowAt L j).size ≤ 1048576) :
    Calls Tryd.prog 25 #[.agg #[.int .i16 c, v], .int .i64 r, .int .i64 g] w fun e w' => ∃ x, e = .returned (.tuple #[.agg #[.int .i16 (frogF c L r g).1.1, x], .int .i64 (frogF c L r g).2.1, .int .i64 (frogF c L r g).2.2]) ∧ OwnT w' w.heap.size x (frogF c L r g).1.2 ∧ Below w.heap.size w w' := by
  obtain ⟨cs, q, rfl⟩ := hC.1.len
  obtain ⟨W0, hW0⟩ : ∃ W0, W0 = ((w.alloc (.cells #[.int .i16 c, .slice cs L.length q] 27)).alloc (.cells #[.int .i16 0, .slice none 0 0] 27)).alloc (.cells #[.iface 80 (.agg #[.int .i64 r, .int .i64 0, .int .i64 (L.length : Int)]), .iface 80 (.agg #[.int .i64 g, .int .i64 1, .int .i64 100])] 123) := ⟨_, rfl⟩
  have T0 := Lib.hid (show Below w.heap.size w W0 by rw [hW0]; go_grown)
  have b0 : W0.cell? ⟨w.heap.size, 0, none⟩ = some (.int .i16 c) := by rw [hW0]; simp [go_sem]
  have r0 : W0.cell? ⟨w.heap.size + 1, 0, none⟩ = some (.int .i16 0) := by rw [hW0]; simp [go_sem]
  have r1 : W0.cell? ⟨w.heap.size + 1, 1, none⟩ = some (.slice none 0 0) := by rw [hW0]; simp [go_sem]
  have f0 : W0.frozen? ⟨w.heap.size + 1, 0, none⟩ = false := by rw [hW0]; simp [go_sem]
  have f1 : W0.frozen? ⟨w.heap.size + 1, 1, none⟩ = false := by rw [hW0]; simp [go_sem]
  have k0 : W0.cell? ⟨w.heap.size + 2, 0, none⟩ = some (.iface 80 (.agg #[.int .i64 r, .int .i64 0, .int .i64 (L.length : Int)])) := by rw [hW0]; simp [go_sem]
  have k1 : W0.cell? ⟨w.heap.size + 2, 1, none⟩ = some (.iface 80 (.agg #[.int .i64 g, .int .i64 1, .int .i64 100])) := by rw [hW0]; simp [go_sem]
  have hz : w.heap.size + 2 < W0.heap.size := by rw [hW0]; simp
  have HS0 := hs.below T0.out
  have HP := Lib.hid (piece_any p c (.slice cs L.length q) L (.slice (some ⟨w.heap.size + 2, 0, none⟩) 2 2) (inB r 0 (L.length : Int) && inB g 1 100) W0 HS0 hc (hC.1.below T0.out) hn hsz
    (fun wx hB => check2_any p _ 2 r 0 (L.length : Int) g 1 100 wx (HS0.below hB) (kept hB hz k0) (kept hB hz k1)))
  have HNo := Lib.hid (fun h => frogF_no (c := c) (L := L) (r := r) (g := g) h)
  have HYe := Lib.hid (fun h => frogF_yes (c := c) (L := L) (r := r) (g := g) h)
  have HW0 := Lib.hid hW0
  have B0 := Lib.hid b0
  have R0 := Lib.hid r0
  have R1 := Lib.hid r1
  have F0 := Lib.hid f0
  have F1 := Lib.hid f1
  have HZ := Lib.hid (show w.heap.size + 1 < W0.heap.size by omega)
  generalize frogF c L r g = res at *
  obtain ⟨⟨rcc, F⟩, y, cd⟩ := res
  dsimp only
  obtain ⟨fi, hfi⟩ : ∃ fi, fi = (inB r 0 (L.length : Int) && inB g 1 100) := ⟨_, rfl⟩
  rw [← hfi] at HP HNo HYe
  obtain ⟨qq, hq⟩ : ∃ qq : Int, qq = if fi = true then 0 else 2 := ⟨_, rfl⟩
  rw [← hq] at HP
  have HQ := Lib.hid hq
  have HFI := Lib.hid hfi
  obtain ⟨hc1, hc2⟩ := hc
  clear hW0 hC b0 r0 r1 f0 f1 k0 k1 hz HS0 hs hq hfi hsz
  go_enter Tryd.func25, Tryd.ntmps25
  go_wp2_with fail
  rw [← HW0.out]
  refine HP.out.mono ?_
  rintro e w1 ⟨hB, hR⟩
  have T1 := Lib.hid (T0.out.trans (hB.mono T0.out.size))
  have b0 := Lib.hid (kept hB (Nat.lt_trans (Nat.lt_succ_self _) HZ.out) B0.out)
  have r0 := Lib.hid (kept hB HZ.out R0.out)
  have r1 := Lib.hid (kept hB HZ.out R1.out)
  have f0 := Lib.hid ((hB.frozen (p := ⟨w.heap.size + 1, 0, none⟩) HZ.out).trans F0.out)
  have f1 := Lib.hid ((hB.frozen (p := ⟨w.heap.size + 1, 1, none⟩) HZ.out).trans F1.out)
  have Z1 := Lib.hid (Nat.lt_of_lt_of_le HZ.out hB.size)
  have Z01 := Lib.hid hB.size
  rcases hR with ⟨hok, rfl⟩ | ⟨hok, rv, wv, rfl, ho1, ho2, _⟩
  · have h0 : askF c L fi = 1 := by simp [askF, hok]
    have hre := HNo.out (by rw [h0]; decide)
    rw [h0] at hre
    simp only [Prod.mk.injEq] at hre
    obtain ⟨⟨rfl, rfl⟩, rfl, rfl⟩ := hre
    have A1 : Below w1.heap.size w1 (w1.alloc (.cells #[.int .i64 0, .slice none 0 0, .slice none 0 0] 60)) := (Below.refl _ _).alloc (Nat.le_refl _) _
    have k0 := kept A1 Z1.out r0.out
    have k1 := kept A1 Z1.out r1.out
    have g0 := (A1.frozen (p := ⟨w.heap.size + 1, 0, none⟩) Z1.out).trans f0.out
    have g1 := (A1.frozen (p := ⟨w.heap.size + 1, 1, none⟩) Z1.out).trans f1.out
    have T2 := Lib.hid (T1.out.trans (A1.mono T1.out.size))
    obtain ⟨e0, e1⟩ := res2 (.int .i16 0) (.slice none 0 0) k0 k1
    clear hB hok HP A1 HNo HYe h0
    unfold pz
    go_wp2_with fail
    refine bodyPost_ret (by simp [results, Tryd.results25, go_sem, e0, e1]; try rfl) rfl ?_
    exact ⟨_, rfl, World.ownsRow_nil _ _ _ _, below_set (below_set T2.out (by omega) _) (by omega) _⟩
  · obtain ⟨wa, wc, rfl⟩ : ∃ wa wc, wv = .slice wa (wdsTo c L (L.length + 1)).length wc := ho2.ints.len
    obtain ⟨ra, rc, rfl⟩ : ∃ ra rc, rv = .slice ra L.length rc := ho1.strs.len
    generalize (wdsTo c L (L.length + 1)).length = m at *
    have A1 : Below w1.heap.size w1 (w1.alloc (.cells #[.int .i64 c, .slice ra L.length rc, .slice wa m wc] 60)) := (Below.refl _ _).alloc (Nat.le_refl _) _
    have k0 := kept A1 Z1.out r0.out
    have k1 := kept A1 Z1.out r1.out
    have g0 := (A1.frozen (p := ⟨w.heap.size + 1, 0, none⟩) Z1.out).trans f0.out
    have g1 := (A1.frozen (p := ⟨w.heap.size + 1, 1, none⟩) Z1.out).trans f1.out
    have T2 := Lib.hid (T1.out.trans (A1.mono T1.out.size))
    cases fi with
    | false =>
      obtain rfl : qq = 2 := HQ.out
      have h0 : askF c L false = 2 := by simp [askF, hok]
      have hre := HNo.out (by rw [h0]; decide)
      rw [h0] at hre
      simp only [Prod.mk.injEq] at hre
      obtain ⟨⟨rfl, rfl⟩, rfl, rfl⟩ := hre
      obtain ⟨e0, e1⟩ := res2 (.int .i16 0) (.slice none 0 0) k0 k1
      clear hB hok HP A1 HNo HYe h0 ho1 ho2
      go_wp2_with fail
      refine bodyPost_ret (by simp [results, Tryd.results25, go_sem, e0, e1]; try rfl) rfl ?_
      exact ⟨_, rfl, World.ownsRow_nil _ _ _ _, below_set (below_set T2.out (by omega) _) (by omega) _⟩
    | true =>
      obtain rfl : qq = 0 := HQ.out
      have h0 : askF c L true = 0 := by simp [askF, hok]
      have hre := HYe.out h0
      simp only [Prod.mk.injEq] at hre
      obtain ⟨⟨rfl, rfl⟩, rfl, rfl⟩ := hre
      obtain ⟨hcb, hfine⟩ := okF_parts hok
      have hfb := HFI.out.symm
      rw [Bool.and_eq_true] at hfb
      obtain ⟨hr1, hr2⟩ := inB_of hfb.1
      obtain ⟨hg1, hg2⟩ := inB_of hfb.2
      obtain ⟨R, rfl⟩ : ∃ R : Nat, r = (R : Int) := ⟨r.toNat, by omega⟩
      have hlen := fine_len hfine
      have hRn : R ≤ L.length := by omega
      have hcap : L.length ≤ rc ∧ ((ra = none ∧ rc = 0) ∨ ∃ g', ra = some ⟨g', 0, none⟩) := by
        rcases ho1.2 with ⟨e, hh⟩ | ⟨g', cap', cur, e, hb', hg', hle, _⟩
        · simp only [Value.slice.injEq] at e
          exact ⟨by omega, .inl ⟨e.1, e.2.2⟩⟩
        · simp only [Value.slice.injEq] at e
          exact ⟨by omega, .inr ⟨_, e.1⟩⟩
      have hq1 : ∀ j, j < L.length → (rowAt L j).size ≤ 120 := fun j hj => row_size hcb (k := j) fun i hi => hfine i (by omega)
      have hq2 : ∀ j, j < L.length → allSt (rowAt L j) = true := fun j hj => (canB_parts (hfine j hj)).1
      have hry := fun (v2 : Value) wx (hx : Strs wx v2 (L.drop R)) => rowsYarn_any v2 (L.drop R) g wx hx (by rw [List.length_drop]; omega) (fun j hj => by rw [List.length_drop] at hj; rw [rowAt_drop]; exact hq1 _ (by omega)) (fun j hj => by rw [List.length_drop] at hj; rw [rowAt_drop]; exact hq2 _ (by omega)) hg1 hg2
      have hsd := (show g * sumN (L.drop R) (L.drop R).length = (sumN L L.length - sumN L R) * g by rw [sumN_drop, List.length_drop, show R + (L.length - R) = L.length by omega, Int.mul_comm])
      rw [hsd] at hry
      have HRY := Lib.hid hry
      clear hry hsd
      obtain ⟨W2, hW2⟩ : ∃ W2, W2 = w1.alloc (.cells #[.int .i64 rcc, .slice ra L.length rc, .slice wa m wc] 60) := ⟨_, rfl⟩
      rw [← hW2] at A1 k0 k1 g0 g1 T2
      have hst := ho1.strs.below A1
      have HCL := Lib.hid fun wx (hx : Strs wx (.slice ra R rc) (L.take R)) => cloneStr_any ra R rc (L.take R) wx hx (by rw [List.length_take]; omega) (by omega)
      have HT := Lib.hid (strs_take hst rfl hRn)
      have HST := Lib.hid hst
      have bb := kept A1 (Nat.lt_trans (Nat.lt_succ_self _) Z1.out) b0.out
      have p1 : W2.cell? ⟨w1.heap.size, 1, none⟩ = some (.slice ra L.length rc) := by rw [hW2]; simp [go_sem]
      have zp : w1.heap.size < W2.heap.size := by rw [hW2]; simp
      have zr : w.heap.size + 1 < W2.heap.size := Nat.lt_trans Z1.out zp
      have HW2 := Lib.hid hW2
      have Z1' := Lib.hid Z1.out
      have ZP := Lib.hid zp
      have HLN : Hid (L.length = L.length) := Lib.hid rfl
      obtain ⟨n, hln⟩ : ∃ n, n = L.length := ⟨_, rfl⟩
      have HLn := Lib.hid hln
      rw [← hln] at hRn hcap HST p1 HW2 ⊢
      obtain ⟨pb, hpb⟩ : ∃ pb, pb = w1.heap.size := ⟨_, rfl⟩
      rw [← hpb] at p1 zp Z1' ZP
      have HPB := Lib.hid hpb
      have X0 : Hid (FrB W2 w.heap.size pb (w.heap.size + 1) (.int .i16 rcc) (.slice ra n rc) (.int .i16 0) (.slice none 0 0) W2.drew) := Lib.hid ⟨bb, p1, k0, k1, g0, g1, (Below.refl _ _).drew, Nat.lt_trans (Nat.lt_succ_self _) zr, zp, zr⟩
      have i1 : (0 : Int) ≤ (R : Int) := by omega
      have i2 : (R : Int) ≤ (rc : Int) := by omega
      have i3 : (R : Int) ≤ (n : Int) := by omega
      have i4 : (n : Int) ≤ (rc : Int) := by omega
      have HCAP := Lib.hid hcap.2
      have Z1n := Lib.hid (show w.heap.size + 1 < pb by rw [hpb]; exact Z1.out)
      clear hB hok HP A1 HNo HYe h0 ho1 ho2 hst hfine hcb hq1 hq2 hlen hfb hW2 hln hpb b0 r0 r1 f0 f1 hr1 hr2 hn HFI HQ hcap
      rcases HCAP.out with ⟨rfl, rfl⟩ | ⟨g', rfl⟩
      · as_aux_lemma =>
        obtain rfl : n = 0 := by omega
        obtain rfl : R = 0 := by omega
        have HL0 := Lib.hid (List.length_eq_zero_iff.1 HLn.out.symm)
        clear zr zp bb p1 k0 k1 g0 g1
        clear T0 HW0 B0 R0 R1 F0 F1 HZ hc1 hc2 T1 Z1 Z01 Z1' ZP HLN HCAP hg1 hg2 HST HT HLn
        go_wp2_with fail
        rw [← HPB.out, ← HW2.out]
        obtain ⟨x1, x2, x3, x4, x5, x6, _, _, _, _⟩ := X0.out
        go_region_held3 (fun w' => w'.cell? ⟨w.heap.size, 0, none⟩ = some (.int .i16 rcc) ∧ w'.cell? ⟨pb, 1, none⟩ = some (.slice none 0 0))
          (first | exact ⟨x1, x2⟩ | exact ⟨y1, y2⟩ | exact ⟨z1, z2⟩ | assumption | (refine frKeep ?_ Z1n.out; first | exact ⟨x1, x2⟩ | exact ⟨y1, y2⟩ | exact ⟨z1, z2⟩ | assumption))
          (first
          | (go_at_call 50; refine (HCL.out _ (strs_nil (by simp [HL0.out]))).mono ?_; rintro e w3 ⟨va, vn, vc, rfl, own3, hB3⟩; have Y3 : Hid (FrB W2 w.heap.size pb (w.heap.size + 1) (.int .i16 rcc) (.slice none 0 0) (.int .i16 0) (.slice none 0 0) w3) := Lib.hid (by first | exact X0.out.next hB3 | exact Y4.out.next hB3); have O3 : Hid (OwnT w3 pb (.slice va vn vc) (L.take 0)) := Lib.hid (own3.mono (by first | exact Nat.le_of_lt X0.out.pbz | exact Nat.le_of_lt Y4.out.pbz)); obtain ⟨y1, y2, y3, y4, y5, y6, _, _, _, _⟩ := Y3.out; dsimp only)
          | (go_at_call 51; refine (HRY.out _ _ (strs_nil (by simp [HL0.out]))).mono ?_; rintro e w4 ⟨rfl, hB4⟩; have Y4 : Hid (FrB W2 w.heap.size pb (w.heap.size + 1) (.int .i16 rcc) (.slice none 0 0) (.int .i16 0) (.slice none 0 0) w4) := Lib.hid (by first | exact X0.out.next hB4 | exact Y3.out.next hB4); obtain ⟨z1, z2, z3, z4, z5, z6, _, _, _, _⟩ := Y4.out; dsimp only)
          | fail)
        have HOF := Lib.hid (O3.out.below hB4)
        have HTF := Lib.hid (T2.out.trans (Y4.out.under.mono T2.out.size))
        obtain ⟨e0, e1⟩ := res2 (.int .i16 rcc) (.slice va vn vc) z3 z4
        clear x1 x2 x3 x4 x5 x6 y1 y2 y3 y4 y5 y6 z1 z2 z3 z4 z5 z6
        go_wp2_with fail
        all_goals
         refine bodyPost_ret (by simp [results, Tryd.results25, go_sem, e0, e1]; try rfl) rfl ?_
         try rw [Int.toNat_natCast]
         exact ⟨_, rfl, OwnT.mono (base := pb) (ownsRow_setCell_below (ownsRow_setCell_below HOF.out Z1n.out _) Z1n.out _) (by have := Z1n.out; omega), below_set (below_set HTF.out (by omega) _) (by omega) _⟩
      · as_aux_lemma =>
        clear zr zp bb p1 k0 k1 g0 g1
        clear T0 HW0 B0 R0 R1 F0 F1 HZ hc1 hc2 T1 Z1 Z01 Z1' ZP HLN HCAP hg1 hg2
        go_wp2_with fail
        rw [← HPB.out, ← HW2.out]
        obtain ⟨x1, x2, x3, x4, x5, x6, _, _, _, _⟩ := X0.out
        go_region_held3 (fun w' => w'.cell? ⟨w.heap.size, 0, none⟩ = some (.int .i16 rcc) ∧ w'.cell? ⟨pb, 1, none⟩ = some (.slice (some ⟨g', 0, none⟩) n rc))
          (first | exact ⟨x1, x2⟩ | exact ⟨y1, y2⟩ | exact ⟨z1, z2⟩ | assumption | (refine frKeep ?_ Z1n.out; first | exact ⟨x1, x2⟩ | exact ⟨y1, y2⟩ | exact ⟨z1, z2⟩ | assumption))
          (first
          | (go_at_call 50; refine (HCL.out _ (HT.out.below (by first | exact X0.out.under | exact Y4.out.under))).mono ?_; rintro e w3 ⟨va, vn, vc, rfl, own3, hB3⟩; have Y3 : Hid (FrB W2 w.heap.size pb (w.heap.size + 1) (.int .i16 rcc) (.slice (some ⟨g', 0, none⟩) n rc) (.int .i16 0) (.slice none 0 0) w3) := Lib.hid (by first | exact X0.out.next hB3 | exact Y4.out.next hB3); have O3 : Hid (OwnT w3 pb (.slice va vn vc) (L.take R)) := Lib.hid (own3.mono (by first | exact Nat.le_of_lt X0.out.pbz | exact Nat.le_of_lt Y4.out.pbz)); obtain ⟨y1, y2, y3, y4, y5, y6, _, _, _, _⟩ := Y3.out; dsimp only)
          | (go_at_call 51; refine (HRY.out _ _ (strs_if (HST.out.below (by first | exact X0.out.under | exact Y3.out.under)) HLn.out hRn (by intro hh; omega))).mono ?_; rintro e w4 ⟨rfl, hB4⟩; have Y4 : Hid (FrB W2 w.heap.size pb (w.heap.size + 1) (.int .i16 rcc) (.slice (some ⟨g', 0, none⟩) n rc) (.int .i16 0) (.slice none 0 0) w4) := Lib.hid (by first | exact X0.out.next hB4 | exact Y3.out.next hB4); obtain ⟨z1, z2, z3, z4, z5, z6, _, _, _, _⟩ := Y4.out; dsimp only)
          | fail)
        have HOF := Lib.hid (O3.out.below hB4)
        have HTF := Lib.hid (T2.out.trans (Y4.out.under.mono T2.out.size))
        obtain ⟨e0, e1⟩ := res2 (.int .i16 rcc) (.slice va vn vc) z3 z4
        clear x1 x2 x3 x4 x5 x6 y1 y2 y3 y4 y5 y6 z1 z2 z3 z4 z5 z6
        go_wp2_with fail
        all_goals
         refine bodyPost_ret (by simp [results, Tryd.results25, go_sem, e0, e1]; try rfl) rfl ?_
         try rw [Int.toNat_natCast]
         exact ⟨_, rfl, OwnT.mono (base := pb) (ownsRow_setCell_below (ownsRow_setCell_below HOF.out Z1n.out _) Z1n.out _) (by have := Z1n.out; omega), below_set (below_set HTF.out (by omega) _) (by omega) _⟩
end Go.Proofs.YtilbadnnmhcdoaaDoor
