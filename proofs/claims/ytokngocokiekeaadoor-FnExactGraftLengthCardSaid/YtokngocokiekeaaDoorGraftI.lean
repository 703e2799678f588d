/-
  No statement is proved here: the yarn by which two fabrics are grafted, in the program; condition: its errors lie where its text lays them; at most 1048576 rows of at most 1048576 bytes.
-/
import Derived.Test.YtokngocokiekeaaDoorGraftS
import Derived.Test.YtokngocokiekeaaDoorKnitP
namespace Go.Proofs.YtokngocokiekeaaDoor
open Go.ChangeShapes Go.WideShapes Go.ChangeAt Go.RowKit

theorem hb3_here {W : World} {b : Nat} {x y z : Value} (h0 : W.cell? ⟨b, 0, none⟩ = some x) (h1 : W.cell? ⟨b, 1, none⟩ = some y) (h2 : W.cell? ⟨b, 2, none⟩ = some z) (hl : b < W.heap.size) : Hb3 W W b x y z := ⟨h0, h1, h2, Below.refl _ _, hl⟩

set_option maxRecDepth 100000 in
set_option maxHeartbeats 16000000 in
theorem implGraft_any (p : Nat → Addr) (c : Int) (v : Value) (L : List ByteArray) (d : Int) (u : Value) (M : List ByteArray) (g : Int) (w : World) (hs : Sent w p) (hc : -32768 ≤ c ∧ c ≤ 32767) (h : Strs w v L) (hn : L.length ≤ 1048576) (hsz : ∀ j, j < L.length → (rowAt L j).size ≤ 1048576)
    (hd : -32768 ≤ d ∧ d ≤ 32767) (k : Strs w u M) (hm : M.length ≤ 1048576) (ht : ∀ j, j < M.length → (rowAt M j).size ≤ 1048576) :
    Calls Tryd.prog 58 #[.agg #[.int .i16 c, v], .agg #[.int .i16 d, u], .int .i64 g] w fun e w' => e = .returned (.tuple #[.int .i64 (graftF c L d M g).1, .int .i64 (graftF c L d M g).2]) ∧ Below w.heap.size w w' := by
  have HY := Lib.hid (show graftF c L d M g = if okF c L = true then (if okF d M = true then (if inB g 1 100 = true then (if wd c L L.length = 0 then (0, 4) else if wd c L L.length = wd d M M.length then (3 * wd c L L.length * g, 0) else (0, 4)) else (0, 2)) else (0, 1)) else (0, 1) from rfl)
  generalize graftF c L d M g = R at *
  obtain ⟨a1, cp, rfl⟩ := h.len
  obtain ⟨a2, cq, rfl⟩ := k.len
  have A1 : Below (w.alloc (.cells #[.int .i16 c, .slice a1 L.length cp] 28)).heap.size (w.alloc (.cells #[.int .i16 c, .slice a1 L.length cp] 28)) ((w.alloc (.cells #[.int .i16 c, .slice a1 L.length cp] 28)).alloc (.cells #[.int .i16 d, .slice a2 M.length cq] 28)) := (Below.refl _ _).alloc (Nat.le_refl _) _
  have X0 := Lib.hid (hb2_id (hb2_next (hb2_made w (.int .i16 c) (.slice a1 L.length cp) 28) A1))
  have Y0 : Hid (Hb2 w ((w.alloc (.cells #[.int .i16 c, .slice a1 L.length cp] 28)).alloc (.cells #[.int .i16 d, .slice a2 M.length cq] 28)) (w.heap.size + 1) (.int .i16 d) (.slice a2 M.length cq)) := ⟨by simp [go_sem], by simp [go_sem], X0.out.2.2.1, by simp⟩
  have HP1 := Lib.hid (piece_any p c (.slice a1 L.length cp) L (.slice none 0 0) true _ (hs.below X0.out.2.2.1) hc (h.below X0.out.2.2.1) hn hsz (fun wx _ => check0_any wx))
  have HP2 := Lib.hid fun wx asked (hB : Below w.heap.size w wx) hk => piece_any p d (.slice a2 M.length cq) M asked (inB g 1 100) wx (hs.below hB) hd (k.below hB) hm ht hk
  have HS := Lib.hid hs
  clear h k A1 hc hd hn hm hsz ht hs
  go_enter Tryd.func58, Tryd.ntmps58
  go_wp2_with fail
  refine HP1.out.mono ?_
  rintro e w1 ⟨hB, hR⟩
  have Y1 := Lib.hid (hb2_id (hb2_next Y0.out hB))
  clear X0 Y0 HP1
  rcases hR with ⟨hok, rfl⟩ | ⟨hok, rv, wv, rfl, ho1, ho2, _⟩
  · rw [hok] at HY
    have B2 := Lib.hid (Y1.out.2.2.1.alloc Y1.out.2.2.1.size (.cells #[.int .i64 0, .slice none 0 0, .slice none 0 0] 75))
    clear hB hok HP2
    unfold pz
    go_wp2
    go_ret2
    rw [HY.out]
    exact ⟨rfl, B2.out⟩
  · rw [hok] at HY
    obtain ⟨ra, rc, rfl⟩ : ∃ ra rc, rv = .slice ra L.length rc := ho1.strs.len
    obtain ⟨wa, wc, rfl⟩ : ∃ wa wc, wv = .slice wa (wdsTo c L (L.length + 1)).length wc := ho2.ints.len
    rw [wdsTo_length] at *
    have A2 : Below w1.heap.size w1 (w1.alloc (.cells #[.int .i64 c, .slice ra L.length rc, .slice wa (L.length + 1 : Nat) wc] 75)) := (Below.refl _ _).alloc (Nat.le_refl _) _
    have A3 : Below (w1.alloc (.cells #[.int .i64 c, .slice ra L.length rc, .slice wa (L.length + 1 : Nat) wc] 75)).heap.size (w1.alloc (.cells #[.int .i64 c, .slice ra L.length rc, .slice wa (L.length + 1 : Nat) wc] 75)) ((w1.alloc (.cells #[.int .i64 c, .slice ra L.length rc, .slice wa (L.length + 1 : Nat) wc] 75)).alloc (.cells #[.iface 105 (.agg #[.int .i64 g, .int .i64 1, .int .i64 100])] 143)) := (Below.refl _ _).alloc (Nat.le_refl _) _
    have cw : Hid (((w1.alloc (.cells #[.int .i64 c, .slice ra L.length rc, .slice wa (L.length + 1 : Nat) wc] 75)).alloc (.cells #[.iface 105 (.agg #[.int .i64 g, .int .i64 1, .int .i64 100])] 143)).cell? ⟨w1.heap.size + 1, 0, none⟩ = some (.iface 105 (.agg #[.int .i64 g, .int .i64 1, .int .i64 100]))) := Lib.hid (by simp [go_sem])
    have Y3 := Lib.hid (hb2_id (hb2_next (hb2_id (hb2_next Y1.out A2)) A3))
    have I3 := Lib.hid ((ho2.ints.below A2).below A3)
    have P3 : Hid (((w1.alloc (.cells #[.int .i64 c, .slice ra L.length rc, .slice wa (L.length + 1 : Nat) wc] 75)).alloc (.cells #[.iface 105 (.agg #[.int .i64 g, .int .i64 1, .int .i64 100])] 143)).cell? ⟨w1.heap.size, 0, none⟩ = some (.int .i64 c) ∧ ((w1.alloc (.cells #[.int .i64 c, .slice ra L.length rc, .slice wa (L.length + 1 : Nat) wc] 75)).alloc (.cells #[.iface 105 (.agg #[.int .i64 g, .int .i64 1, .int .i64 100])] 143)).cell? ⟨w1.heap.size, 1, none⟩ = some (.slice ra L.length rc) ∧ ((w1.alloc (.cells #[.int .i64 c, .slice ra L.length rc, .slice wa (L.length + 1 : Nat) wc] 75)).alloc (.cells #[.iface 105 (.agg #[.int .i64 g, .int .i64 1, .int .i64 100])] 143)).cell? ⟨w1.heap.size, 2, none⟩ = some (.slice wa (L.length + 1 : Nat) wc) ∧ w1.heap.size < ((w1.alloc (.cells #[.int .i64 c, .slice ra L.length rc, .slice wa (L.length + 1 : Nat) wc] 75)).alloc (.cells #[.iface 105 (.agg #[.int .i64 g, .int .i64 1, .int .i64 100])] 143)).heap.size) := Lib.hid ⟨by simp [go_sem], by simp [go_sem], by simp [go_sem], by simp; omega⟩
    have HQ := Lib.hid (HP2.out _ (.slice (some ⟨w1.heap.size + 1, 0, none⟩) 1 1) Y3.out.2.2.1 (fun wx hB => check1_any p _ 1 g 1 100 wx ((HS.out.below Y3.out.2.2.1).below hB) (kept hB (by simp) cw.out)))
    obtain ⟨hcb, hf1⟩ := okF_parts hok
    have hw1 := wd_bd hcb (k := L.length) hf1
    have hn30 := fine_len hf1
    obtain ⟨y0, y1, _, _⟩ := Y1.out
    clear hB hok HP2 ho1 ho2 A2 A3 cw Y1 hcb hf1 HS
    obtain ⟨q, hq⟩ : ∃ q : Int, q = if inB g 1 100 = true then 0 else 2 := ⟨_, rfl⟩
    rw [← hq] at HQ
    go_wp2_with fail
    generalize (w1.alloc (.cells #[.int .i64 c, .slice ra L.length rc, .slice wa (L.length + 1 : Nat) wc] 75)).alloc (.cells #[.iface 105 (.agg #[.int .i64 g, .int .i64 1, .int .i64 100])] 143) = w2 at *
    clear y0 y1
    generalize w1.heap.size = pb at *
    refine HQ.out.mono ?_
    rintro e w3 ⟨hB, hR⟩
    have B3 := Lib.hid (Y3.out.2.2.1.trans (hB.mono Y3.out.2.2.1.size))
    rcases hR with ⟨hok, rfl⟩ | ⟨hok, rv2, wv2, rfl, ho1, ho2, _⟩
    · rw [hok] at HY
      have B4 := Lib.hid (B3.out.alloc B3.out.size (.cells #[.int .i64 0, .slice none 0 0, .slice none 0 0] 75))
      clear hB hok hq
      unfold pz
      go_wp2
      go_ret2
      rw [HY.out]
      exact ⟨rfl, B4.out⟩
    · rw [hok] at HY
      obtain ⟨ra2, rc2, rfl⟩ : ∃ ra rc, rv2 = .slice ra M.length rc := ho1.strs.len
      obtain ⟨wa2, wc2, rfl⟩ : ∃ wa wc, wv2 = .slice wa (wdsTo d M (M.length + 1)).length wc := ho2.ints.len
      rw [wdsTo_length] at *
      have A4 : Below w3.heap.size w3 (w3.alloc (.cells #[.int .i64 d, .slice ra2 M.length rc2, .slice wa2 (M.length + 1 : Nat) wc2] 75)) := (Below.refl _ _).alloc (Nat.le_refl _) _
      have B4 := Lib.hid (B3.out.trans (A4.mono B3.out.size))
      cases hg : inB g 1 100 with
      | false =>
        rw [hg] at HY hq
        obtain rfl : q = 2 := hq
        clear hB hok hg ho1 ho2 A4
        go_wp2
        go_ret2
        rw [HY.out]
        exact ⟨rfl, B4.out⟩
      | true =>
        rw [hg] at HY hq
        obtain rfl : q = 0 := hq
        have hgb := inB_of hg
        obtain ⟨hdb, hf2⟩ := okF_parts hok
        have hm30 := fine_len hf2
        have I4 := Lib.hid ((I3.out.below hB).below A4)
        have J4 := Lib.hid (ho2.ints.below A4)
        have P4 := Lib.hid (hb3_here (kept A4 (Nat.lt_of_lt_of_le P3.out.2.2.2 hB.size) (kept hB P3.out.2.2.2 P3.out.1)) (kept A4 (Nat.lt_of_lt_of_le P3.out.2.2.2 hB.size) (kept hB P3.out.2.2.2 P3.out.2.1)) (kept A4 (Nat.lt_of_lt_of_le P3.out.2.2.2 hB.size) (kept hB P3.out.2.2.2 P3.out.2.2.1)) (Nat.lt_of_lt_of_le (Nat.lt_of_lt_of_le P3.out.2.2.2 hB.size) A4.size))
        have Q4 : Hid (Hb3 (w3.alloc (.cells #[.int .i64 d, .slice ra2 M.length rc2, .slice wa2 (M.length + 1 : Nat) wc2] 75)) (w3.alloc (.cells #[.int .i64 d, .slice ra2 M.length rc2, .slice wa2 (M.length + 1 : Nat) wc2] 75)) w3.heap.size (.int .i64 d) (.slice ra2 M.length rc2) (.slice wa2 (M.length + 1 : Nat) wc2)) := Lib.hid (hb3_here (by simp [go_sem]) (by simp [go_sem]) (by simp [go_sem]) (by simp))
        clear hB hok hg ho1 ho2 A4 hdb hf2 P3 I3 Y3 HQ
        go_wp2_with fail
        generalize w3.alloc (.cells #[.int .i64 d, .slice ra2 M.length rc2, .slice wa2 (M.length + 1 : Nat) wc2] 75) = w4 at *
        generalize w3.heap.size = qb at *
        have HW1 := Lib.hid fun wx (hx : Below w4.heap.size w4 wx) => width_any c ra rc L.length _ _ wx (I4.out.below hx) (wdsTo_length c L (L.length + 1)) (by omega)
        have HW2 := Lib.hid fun wx (hx : Below w4.heap.size w4 wx) => width_any d ra2 rc2 M.length _ _ wx (J4.out.below hx) (wdsTo_length d M (M.length + 1)) (by omega)
        rw [wdsTo_get c L (L.length + 1) L.length (by omega)] at HW1
        rw [wdsTo_get d M (M.length + 1) M.length (by omega)] at HW2
        generalize wd c L L.length = x at *
        generalize wd d M M.length = y at *
        generalize L.length = n at *
        generalize M.length = n2 at *
        obtain ⟨hg1, hg2⟩ := hgb
        obtain ⟨hw2, hw3⟩ := hw1
        clear I4 J4
        by_cases hxy : x = y
        · subst hxy
          have g2 : (x != x) = false := by simp
          by_cases hx0 : x = 0
          · have HY2 : Hid (R = (0, 4)) := Lib.hid (by rw [HY.out]; simp only [if_true]; rw [if_pos hx0])
            clear HY
            subst hx0
            have PD := hb3_id (hb3_drew P4.out)
            have QD := hb3_id (hb3_drew Q4.out)
            obtain ⟨m0, m1, m2, _, _⟩ := hb3_raw P4.out
            obtain ⟨n0, n1, n2, _, _⟩ := hb3_raw Q4.out
            first
              | (go_region_with (first | (go_at_call 89; first | (with_reducible refine (HW1.out _ (hb3_below (w := w4) (b := pb) (by assumption))).mono ?_; rintro e w6 ⟨rfl, hB6⟩; have Y2 := hb3_id (hb3_next (b := pb) (x := .int .i64 c) (by assumption) hB6); have Z2 := hb3_id (hb3_next (b := qb) (x := .int .i64 d) (by assumption) hB6); obtain ⟨k0, k1, k2, _, _⟩ := hb3_raw Y2; obtain ⟨l0, l1, l2, _, _⟩ := hb3_raw Z2) | (with_reducible refine (HW2.out _ (hb3_below (w := w4) (b := pb) (by assumption))).mono ?_; rintro e w6 ⟨rfl, hB6⟩; have Y2 := hb3_id (hb3_next (b := pb) (x := .int .i64 c) (by assumption) hB6); have Z2 := hb3_id (hb3_next (b := qb) (x := .int .i64 d) (by assumption) hB6); obtain ⟨k0, k1, k2, _, _⟩ := hb3_raw Y2; obtain ⟨l0, l1, l2, _, _⟩ := hb3_raw Z2)) | fail))
              | fail
            all_goals
              have HE := Lib.hid (hb3_below (w := w4) (b := pb) (by assumption))
              go_wp2
              go_ret2
              rw [HY2.out]
              exact ⟨rfl, B4.out.trans (HE.out.mono B4.out.size)⟩
          · have g1 : (x == 0) = false := by rw [beq_eq_false_iff_ne]; exact hx0
            have hmb := mul_bd (a := 3 * g) (b := x) (A := 300) (B := 60) (by omega) (by omega) (by omega) (by omega)
            obtain ⟨q, hq⟩ : ∃ q, q = 3 * g * x := ⟨_, rfl⟩
            have HY2 : Hid (R = (q, 0)) := Lib.hid (by
              rw [HY.out]
              simp only [if_true]
              rw [if_neg hx0, hq, Int.mul_assoc, Int.mul_comm x g, ← Int.mul_assoc])
            rw [← hq] at hmb
            have u1 : ∀ [Inhabited Nat], IntKind.i64.wrap (3 * g * x) = q := by intro _; rw [← hq]; exact (IntWalk.i64_in _ (by omega)).trans (by omega)
            have u2 : ∀ [Inhabited Nat], wrap64 (3 * g * x) = q := by intro _; rw [← hq]; exact (IntWalk.wrap64_in _ (by omega)).trans (by omega)
            clear HY hq hx0
            have PD := hb3_id (hb3_drew P4.out)
            have QD := hb3_id (hb3_drew Q4.out)
            obtain ⟨m0, m1, m2, _, _⟩ := hb3_raw P4.out
            obtain ⟨n0, n1, n2, _, _⟩ := hb3_raw Q4.out
            first
              | (go_region_with (first | (go_at_call 89; first | (with_reducible refine (HW1.out _ (hb3_below (w := w4) (b := pb) (by assumption))).mono ?_; rintro e w6 ⟨rfl, hB6⟩; have Y2 := hb3_id (hb3_next (b := pb) (x := .int .i64 c) (by assumption) hB6); have Z2 := hb3_id (hb3_next (b := qb) (x := .int .i64 d) (by assumption) hB6); obtain ⟨k0, k1, k2, _, _⟩ := hb3_raw Y2; obtain ⟨l0, l1, l2, _, _⟩ := hb3_raw Z2) | (with_reducible refine (HW2.out _ (hb3_below (w := w4) (b := pb) (by assumption))).mono ?_; rintro e w6 ⟨rfl, hB6⟩; have Y2 := hb3_id (hb3_next (b := pb) (x := .int .i64 c) (by assumption) hB6); have Z2 := hb3_id (hb3_next (b := qb) (x := .int .i64 d) (by assumption) hB6); obtain ⟨k0, k1, k2, _, _⟩ := hb3_raw Y2; obtain ⟨l0, l1, l2, _, _⟩ := hb3_raw Z2)) | fail))
              | fail
            all_goals
              go_wp2_with fail
              refine (HW1.out _ (hb3_below (w := w4) (b := pb) (by assumption))).mono ?_
              rintro e w7 ⟨rfl, hB7⟩
              have HE := Lib.hid (hb3_below (w := w4) (b := pb) (hb3_id (hb3_next (b := pb) (x := .int .i64 c) (by assumption) hB7)))
              clear hB7
              go_wp2
              go_ret2
              rw [HY2.out]
              exact ⟨rfl, B4.out.trans (HE.out.mono B4.out.size)⟩
        · have g2 : (x != y) = true := by rw [bne_iff_ne]; exact hxy
          have HY2 : Hid (R = (0, 4)) := Lib.hid (by
            rw [HY.out]
            simp only [if_true]
            by_cases hx0 : x = 0
            · rw [if_pos hx0]
            · rw [if_neg hx0, if_neg hxy])
          clear HY hxy
          have PD := hb3_id (hb3_drew P4.out)
          have QD := hb3_id (hb3_drew Q4.out)
          obtain ⟨m0, m1, m2, _, _⟩ := hb3_raw P4.out
          obtain ⟨n0, n1, n2, _, _⟩ := hb3_raw Q4.out
          first
            | (go_region_with (first | (go_at_call 89; first | (with_reducible refine (HW1.out _ (hb3_below (w := w4) (b := pb) (by assumption))).mono ?_; rintro e w6 ⟨rfl, hB6⟩; have Y2 := hb3_id (hb3_next (b := pb) (x := .int .i64 c) (by assumption) hB6); have Z2 := hb3_id (hb3_next (b := qb) (x := .int .i64 d) (by assumption) hB6); obtain ⟨k0, k1, k2, _, _⟩ := hb3_raw Y2; obtain ⟨l0, l1, l2, _, _⟩ := hb3_raw Z2) | (with_reducible refine (HW2.out _ (hb3_below (w := w4) (b := pb) (by assumption))).mono ?_; rintro e w6 ⟨rfl, hB6⟩; have Y2 := hb3_id (hb3_next (b := pb) (x := .int .i64 c) (by assumption) hB6); have Z2 := hb3_id (hb3_next (b := qb) (x := .int .i64 d) (by assumption) hB6); obtain ⟨k0, k1, k2, _, _⟩ := hb3_raw Y2; obtain ⟨l0, l1, l2, _, _⟩ := hb3_raw Z2)) | fail))
            | fail
          all_goals
            have HE := Lib.hid (hb3_below (w := w4) (b := pb) (by assumption))
            go_wp2
            go_ret2
            rw [HY2.out]
            exact ⟨rfl, B4.out.trans (HE.out.mono B4.out.size)⟩
end Go.Proofs.YtokngocokiekeaaDoor
