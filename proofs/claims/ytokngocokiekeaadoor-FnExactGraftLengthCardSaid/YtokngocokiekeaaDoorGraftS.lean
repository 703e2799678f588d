/-
  No statement is proved here: the yarn by which two fabrics are grafted, in the document's own text; condition: rows of at most 1048576 bytes.
-/
import Derived.Test.YtokngocokiekeaaDoorWidS
namespace Go.Proofs.YtokngocokiekeaaDoor
open Go.ChangeShapes Go.WideShapes Go.ChangeAt Go.RowKit

/-- What GraftLength answers. -/
def graftF (c : Int) (L : List ByteArray) (d : Int) (M : List ByteArray) (g : Int) : Int × Int :=
  if okF c L = true then (if okF d M = true then (if inB g 1 100 = true then (if wd c L L.length = 0 then (0, 4) else if wd c L L.length = wd d M M.length then (3 * wd c L L.length * g, 0) else (0, 4)) else (0, 2)) else (0, 1)) else (0, 1)
theorem own_last {w : World} {B n : Nat} {v : Value} {zs : List Int} (h : Own w B v zs) (hl : zs.length = n + 1) : ∃ b off cap, v = .slice (some ⟨b, off, none⟩) (n + 1 : Nat) cap ∧ b < w.heap.size ∧ w.cell? ⟨b, off + n, none⟩ = some (.int .i64 (zs.getD n 0)) := by
  rcases h.ints with ⟨_, _, _, rfl⟩ | ⟨b, off, cap, rfl, h0, hb, hc⟩
  · simp at hl
  · exact ⟨b, off, cap, by rw [hl], hb, hc n (by omega)⟩

set_option maxRecDepth 100000 in
set_option maxHeartbeats 8000000 in
theorem specGraft_any (c : Int) (v : Value) (L : List ByteArray) (d : Int) (u : Value) (M : List ByteArray) (g : Int) (w : World) (hc : -32768 ≤ c ∧ c ≤ 32767) (h : Strs w v L) (hn : L.length ≤ 1048576) (hs : ∀ j, j < L.length → (rowAt L j).size ≤ 1048576)
    (hd : -32768 ≤ d ∧ d ≤ 32767) (k : Strs w u M) (hm : M.length ≤ 1048576) (ht : ∀ j, j < M.length → (rowAt M j).size ≤ 1048576) :
    Calls Tryd.prog 57 #[.agg #[.int .i16 c, v], .agg #[.int .i16 d, u], .int .i64 g] w fun e w' => e = .returned (.tuple #[.int .i64 (graftF c L d M g).1, .int .i64 (graftF c L d M g).2]) ∧ Below w.heap.size w w' := by
  have HY := Lib.hid (show graftF c L d M g = if okF c L = true then (if okF d M = true then (if inB g 1 100 = true then (if wd c L L.length = 0 then (0, 4) else if wd c L L.length = wd d M M.length then (3 * wd c L L.length * g, 0) else (0, 4)) else (0, 2)) else (0, 1)) else (0, 1) from rfl)
  generalize graftF c L d M g = R at *
  obtain ⟨a1, cp, rfl⟩ := h.len
  obtain ⟨a2, cq, rfl⟩ := k.len
  have A1 : Below (w.alloc (.cells #[.int .i16 c, .slice a1 L.length cp] 28)).heap.size (w.alloc (.cells #[.int .i16 c, .slice a1 L.length cp] 28)) ((w.alloc (.cells #[.int .i16 c, .slice a1 L.length cp] 28)).alloc (.cells #[.int .i16 d, .slice a2 M.length cq] 28)) := (Below.refl _ _).alloc (Nat.le_refl _) _
  have X0 := Lib.hid (hb2_id (hb2_next (hb2_made w (.int .i16 c) (.slice a1 L.length cp) 28) A1))
  have Y0 : Hid (Hb2 w ((w.alloc (.cells #[.int .i16 c, .slice a1 L.length cp] 28)).alloc (.cells #[.int .i16 d, .slice a2 M.length cq] 28)) (w.heap.size + 1) (.int .i16 d) (.slice a2 M.length cq)) := ⟨by simp [go_sem], by simp [go_sem], X0.out.2.2.1, by simp⟩
  have HV := Lib.hid h
  have HU := Lib.hid k
  have HA1 := Lib.hid (specOk_any w.heap.size c (.slice a1 L.length cp) L _ X0.out.1 X0.out.2.1 hc (h.below X0.out.2.2.1) hn hs)
  have HA2 := Lib.hid fun n => specOk_any (w.heap.size + 1) d (.slice a2 M.length cq) M (World.drewN ((w.alloc (.cells #[.int .i16 c, .slice a1 L.length cp] 28)).alloc (.cells #[.int .i16 d, .slice a2 M.length cq] 28)) n) Y0.out.1 Y0.out.2.1 hd ((k.below X0.out.2.2.1).below (bdN _ n)) hm ht
  have HG := Lib.hid fun wx => specGauge_any g wx
  clear h k A1 hc hd hn hm hs ht
  cases ho1 : okF c L with
  | false =>
    rw [ho1] at HA1 HY
    clear ho1 HA2 HG
    go_enter Tryd.func57, Tryd.ntmps57
    go_wp2_with fail
    refine HA1.out.mono ?_
    rintro e w2 ⟨rfl, m, rfl⟩
    go_wp2
    go_ret2
    rw [HY.out]
    exact ⟨rfl, X0.out.2.2.1.trans ((bdN _ _).mono X0.out.2.2.1.size)⟩
  | true =>
    rw [ho1] at HA1 HY
    cases ho2 : okF d M with
    | false =>
      rw [ho2] at HA2 HY
      clear ho1 ho2 HG
      go_enter Tryd.func57, Tryd.ntmps57
      go_wp2_with fail
      refine HA1.out.mono ?_
      rintro e w2 ⟨rfl, m, rfl⟩
      go_wp2_with fail
      refine (HA2.out m).mono ?_
      rintro e w2 ⟨rfl, m2, rfl⟩
      go_wp2
      go_ret2
      rw [HY.out]
      exact ⟨rfl, X0.out.2.2.1.trans ((bdN _ _).mono X0.out.2.2.1.size)⟩
    | true =>
      rw [ho2] at HA2 HY
      cases hg : inB g 1 100 with
      | false =>
        rw [hg] at HG HY
        clear ho1 ho2 hg
        go_enter Tryd.func57, Tryd.ntmps57
        go_wp2_with fail
        refine HA1.out.mono ?_
        rintro e w2 ⟨rfl, m, rfl⟩
        go_wp2_with fail
        refine (HA2.out m).mono ?_
        rintro e w2 ⟨rfl, m2, rfl⟩
        go_wp2_with fail
        refine (HG.out _).mono ?_
        rintro e w2 ⟨rfl, rfl⟩
        go_wp2
        go_ret2
        rw [HY.out]
        exact ⟨rfl, X0.out.2.2.1.trans ((bdN _ _).mono X0.out.2.2.1.size)⟩
      | true =>
        rw [hg] at HG HY
        have hgb := inB_of hg
        obtain ⟨hcb, hf1⟩ := okF_parts ho1
        obtain ⟨hdb, hf2⟩ := okF_parts ho2
        have hw1 := wd_bd hcb (k := L.length) hf1
        have hn30 := fine_len hf1
        have hm30 := fine_len hf2
        have HO1 := Lib.hid ho1
        have HO2 := Lib.hid ho2
        clear ho1 ho2 hg hcb hdb hf1 hf2
        go_enter Tryd.func57, Tryd.ntmps57
        go_wp2_with fail
        refine HA1.out.mono ?_
        rintro e w2 ⟨rfl, m, rfl⟩
        go_wp2_with fail
        refine (HA2.out m).mono ?_
        rintro e w2 ⟨rfl, m2, rfl⟩
        have BB := (bdN ((w.alloc (.cells #[.int .i16 c, .slice a1 L.length cp] 28)).alloc (.cells #[.int .i16 d, .slice a2 M.length cq] 28)) m).trans (bdN (((w.alloc (.cells #[.int .i16 c, .slice a1 L.length cp] 28)).alloc (.cells #[.int .i16 d, .slice a2 M.length cq] 28)).drewN m) m2)
        have X1 := Lib.hid (hb2_id (hb2_next X0.out BB))
        have Y1 := Lib.hid (hb2_id (hb2_next Y0.out BB))
        clear X0 Y0 BB HA1 HA2
        generalize (((w.alloc (.cells #[.int .i16 c, .slice a1 L.length cp] 28)).alloc (.cells #[.int .i16 d, .slice a2 M.length cq] 28)).drewN m).drewN m2 = w3 at *
        go_wp2_with fail
        refine (HG.out _).mono ?_
        rintro e w4 ⟨rfl, rfl⟩
        go_wp2_with fail
        refine (specWid_any w.heap.size c (.slice a1 L.length cp) L _ X1.out.1 X1.out.2.1 X1.out.2.2.2 HO1.out (HV.out.below X1.out.2.2.1)).mono ?_
        rintro e w5 ⟨r1, rfl, own1, hB5⟩
        have Y5 := Lib.hid (hb2_id (hb2_next Y1.out hB5))
        have W5 := Lib.hid (own_last own1 (wdsTo_length c L (L.length + 1)))
        clear own1 hB5 X1 Y1
        go_wp2_with fail
        refine (specWid_any (w.heap.size + 1) d (.slice a2 M.length cq) M _ Y5.out.1 Y5.out.2.1 Y5.out.2.2.2 HO2.out (HU.out.below Y5.out.2.2.1)).mono ?_
        rintro e w6 ⟨r2, rfl, own2, hB6⟩
        obtain ⟨b1, f1, k1, rfl, hl1, hx1⟩ := W5.out
        obtain ⟨b2, f2, k2, rfl, hl2, hx2⟩ := own_last own2 (wdsTo_length d M (M.length + 1))
        have e1 := kept hB6 hl1 hx1
        rw [wdsTo_get c L (L.length + 1) L.length (by omega)] at e1
        rw [wdsTo_get d M (M.length + 1) M.length (by omega)] at hx2
        have B6 := Lib.hid (Y5.out.2.2.1.trans (hB6.mono Y5.out.2.2.1.size))
        have hLn : (L.length : Int) ≤ 1048576 ∨ True := .inr trivial
        clear own2 hB6 hx1 Y5 W5 hl1 hl2 hLn HV HU HO1 HO2 HG
        generalize wd c L L.length = x at *
        generalize wd d M M.length = y at *
        generalize L.length = n at *
        generalize M.length = n2 at *
        obtain ⟨hg1, hg2⟩ := hgb
        obtain ⟨hw2, hw3⟩ := hw1
        by_cases hx0 : x = 0
        · subst hx0
          have HY2 : Hid (R = (0, 4)) := Lib.hid (by rw [HY.out]; rfl)
          go_wp2
          go_ret2
          rw [HY2.out]
          exact ⟨rfl, B6.out⟩
        · have g1 : (x == 0) = false := by rw [beq_eq_false_iff_ne]; exact hx0
          by_cases hxy : x = y
          · have g2 : (x != y) = false := by simp [hxy]
            have hmb := mul_bd (a := 3 * x) (b := g) (A := 180) (B := 100) (by omega) (by omega) (by omega) hg2
            obtain ⟨q, hq⟩ : ∃ q, q = 3 * x * g := ⟨_, rfl⟩
            have HY2 : Hid (R = (q, 0)) := Lib.hid (by rw [HY.out]; simp only [if_true]; rw [if_neg hx0, if_pos hxy, hq])
            rw [← hq] at hmb
            have u1 : ∀ [Inhabited Nat], IntKind.i64.wrap (3 * x * g) = q := by intro _; rw [← hq]; exact (IntWalk.i64_in _ (by omega)).trans (by omega)
            have u2 : ∀ [Inhabited Nat], wrap64 (3 * x * g) = q := by intro _; rw [← hq]; exact (IntWalk.wrap64_in _ (by omega)).trans (by omega)
            clear HY hq hxy hx0
            go_wp2
            go_ret2
            rw [HY2.out]
            exact ⟨rfl, B6.out⟩
          · have g2 : (x != y) = true := by rw [bne_iff_ne]; exact hxy
            have HY2 : Hid (R = (0, 4)) := Lib.hid (by rw [HY.out]; simp only [if_true]; rw [if_neg hx0, if_neg hxy])
            clear HY hxy hx0
            go_wp2
            go_ret2
            rw [HY2.out]
            exact ⟨rfl, B6.out⟩
end Go.Proofs.YtokngocokiekeaaDoor
