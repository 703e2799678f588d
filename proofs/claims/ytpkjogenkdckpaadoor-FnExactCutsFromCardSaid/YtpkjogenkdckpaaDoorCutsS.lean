/-
  No statement is proved here: needs that are cut from yarns, as the document's own text cuts them; condition: at most 1048576 yarns and needs.
-/
import Derived.Test.YtpkjogenkdckpaaDoorCutsI
import Derived.Deep.AppendLies
import Derived.Deep.RegionWith
import Derived.Deep.DeepCutAuto
namespace Go.Proofs.YtpkjogenkdckpaaDoor
open Go.ChangeShapes Go.WideShapes Go.ChangeAt Go.RowKit

theorem one_one' (a : Int) : ∀ u ∈ [Value.int .i64 a], u.oneCell' = true := by intro u hu; simp at hu; subst hu; rfl
theorem take_step' {l : List Int} {k : Nat} (hk : k < l.length) : l.take (k + 1) = l.take k ++ [l.getD k 0] := by
  rw [List.take_add_one, List.getElem?_eq_getElem hk, List.getD, List.getElem?_eq_getElem hk]
  rfl
theorem grown_alloc' {w w' : World} {o : Obj} {row : Option Nat} (h : (w.alloc o).grownBy w' row) : w.grownBy w' row :=
  ⟨h.os, h.tape, h.output, Nat.le_trans (by simp) h.size, fun i hi hne => (h.block i (by simp; omega) hne).trans (Below.heap_alloc w o i hi)⟩
theorem ints_pos {w : World} {v : Value} {zs : List Int} (h : Ints w v zs) (h0 : 0 < zs.length) : ∃ b off cap, v = .slice (some ⟨b, off, none⟩) zs.length cap ∧ b < w.heap.size ∧ ∀ j, j < zs.length → w.cell? ⟨b, off + j, none⟩ = some (.int .i64 (zs.getD j 0)) := by
  rcases h with ⟨_, _, _, rfl⟩ | ⟨b, off, cap, rfl, _, hb, hc⟩
  · simp at h0
  · exact ⟨_, _, _, rfl, hb, hc⟩
/-- What becomes of the other row when one grows. -/
theorem cuts_next {w w6 w7 : World} {o left : Value} {q gg cap : Nat} {xs : List Value} {L1 : List Int} {ob : Obj} (O6 : w6.ownsRow w.heap.size 2 1 o q xs) (N6 : o.ownBlock ≠ left.ownBlock) (L6 : Own w6 w.heap.size left L1) (B6 : Below w.heap.size w w6)
    (hgrow : (w6.alloc ob).grownBy w7 o.ownBlock) (hat : o.ownBlock = some gg ∨ gg = w6.heap.size + 1) :
    (Value.slice (some ⟨gg, 0, none⟩) (q + 1) cap).ownBlock ≠ left.ownBlock ∧ Own w7 w.heap.size left L1 ∧ Below w.heap.size w w7 := by
  refine ⟨fun e => ?_, Own.kept (w := w6) L6 (grown_alloc' hgrow) ?_, B6.grown (grown_alloc' hgrow) B6.size (fun k hk => (O6.lt k hk).1)⟩
  · have e' : left.ownBlock = some gg := e.symm
    rcases hat with h | h
    · exact N6 (h.trans e'.symm)
    · have := (L6.lt gg e').2
      omega
  · cases hl : left.ownBlock with
    | none => exact .inl rfl
    | some g => exact .inr fun e => N6 (e.symm.trans hl.symm)
/-- What the search for a yarn has come to. -/
def Found (L : List Int) (d : Int) (n i : Nat) (x : Int) : Prop := (x = -1 ∧ ∀ t, t < i → L.getD t 0 < d) ∨ ∃ j : Nat, x = (j : Int) ∧ j < n ∧ d ≤ L.getD j 0 ∧ ∀ t, t < j → L.getD t 0 < d

set_option maxRecDepth 100000 in
set_option maxHeartbeats 16000000 in
theorem specCuts_any (v u : Value) (ys : List Yn) (zs : List Int) (w : World) (h : Yarns w v ys) (hz : Ints w u zs) (hn : ys.length ≤ 1048576) (hm : zs.length ≤ 1048576) :
    Calls Tryd.prog 32 #[v, u] w fun e w' => ∃ r, e = .returned (.tuple #[r, .int .i64 (cutsF ys zs).2]) ∧ Own w' w.heap.size r (cutsF ys zs).1 ∧ Below w.heap.size w w' := by
  obtain ⟨i0, hi, hz0, hz1, hz2⟩ := info_parts info64
  have H1 := Lib.hid fun wx hx hy => l03Needs_any v u ys zs wx hx hy hn hm
  have HY := Lib.hid h
  have HZ := Lib.hid hz
  obtain ⟨a0, c0, rfl⟩ := h.len
  have hul : ∃ a1 c1, u = .slice a1 zs.length c1 := by
    rcases hz with ⟨a, c, rfl, rfl⟩ | ⟨b, off, c, rfl, _⟩
    · exact ⟨_, _, rfl⟩
    · exact ⟨_, _, rfl⟩
  obtain ⟨a1, c1, rfl⟩ := hul
  have hst0 : (w.alloc (.cells #[] 2)).ownsRow w.heap.size 2 1 (.slice (some ⟨w.heap.size, 0, none⟩) 0 0) 0 [] := World.ownsRow_made w #[] 0 (Nat.le_refl _) (by decide) rfl
  have S0 := Lib.hid hst0
  clear hst0
  by_cases hc : needsF ys zs = 0
  · rw [show cutsF ys zs = (cutsTo (longs ys) zs zs.length, 0) by unfold cutsF; rw [if_pos hc]]
    rw [hc] at H1
    obtain ⟨hY1, hZ1, hY2, hZ2⟩ := needsF_zero hc
    have HL := Lib.hid (show (longs ys).length = ys.length from longs_length ys)
    have HLG := Lib.hid (longs_get ys)
    have HB5 := Lib.hid (show ∀ k, k ≤ zs.length → ∀ j, j < ys.length → 0 ≤ (leftTo (longs ys) zs k).getD j 0 ∧ (leftTo (longs ys) zs k).getD j 0 ≤ 5000 from fun k hk j hj => by
      refine leftTo_bd (fun j hj => ?_) (fun j hj => (allL_get hZ1 j hj).1) k hk j (by rw [longs_length]; exact hj)
      rw [longs_length] at hj
      rw [longs_get]
      obtain ⟨x1, x2⟩ := (show 1 ≤ (yat ys j).1 ∧ (yat ys j).1 ≤ 5000 from (okY_of (allY_get hY1 j hj)).1)
      exact ⟨by omega, x2⟩)
    have HD := Lib.hid (fun j hj => allL_get hZ1 j hj)
    have HLT := Lib.hid (leftTo_length (longs ys) zs)
    have HCT := Lib.hid (cutsTo_length (longs ys) zs)
    generalize longs ys = l at *
    clear hc hY1 hZ1 h hz
    obtain ⟨n, hln⟩ : ∃ n, n = ys.length := ⟨_, rfl⟩
    rw [← hln] at hn hY2 HL HB5 HY H1 ⊢
    obtain ⟨m, hlm⟩ : ∃ m, m = zs.length := ⟨_, rfl⟩
    rw [← hlm] at hm hZ2 HB5 HD HZ H1 ⊢
    have HM := Lib.hid hlm
    have HN := Lib.hid hln
    clear hln hlm
    have hn10 : (n : Int) ≤ 10 := by omega
    have hm6 : (m : Int) ≤ 6 := by omega
    go_enter Tryd.func32, Tryd.ntmps32
    go_wp2_with fail
    refine (H1.out _ (HY.out.below ((Below.refl _ _).alloc (Nat.le_refl _) _)) (HZ.out.below ((Below.refl _ _).alloc (Nat.le_refl _) _))).mono ?_
    rintro e w2 ⟨rfl, hB⟩
    have B2 := Lib.hid (((Below.refl w.heap.size w).alloc (Nat.le_refl _) _).trans (hB.mono (by simp)))
    have O2 := Lib.hid (own_below S0.out hB)
    have X2 := Lib.hid (show w.heap.size < w2.heap.size by have := hB.size; simp at this; omega)
    have S2 := Lib.hid (show (w2.alloc (.cells #[] 2)).ownsRow w2.heap.size 2 1 (.slice (some ⟨w2.heap.size, 0, none⟩) 0 0) 0 ((l.take 0).map (Value.int .i64)) from World.ownsRow_made w2 #[] 0 (Nat.le_refl _) (by decide) rfl)
    clear hB
    go_wp2_with fail
    go_loopw [8, 9] (fun v i wr => ∃ (k : Nat) (u : Value), k ≤ n ∧ i = .int .i64 k ∧ u = v ∧ Hid (wr.ownsRow w2.heap.size 2 1 v k ((l.take k).map (Value.int .i64))) ∧ Hid (Below w2.heap.size w2 wr)) (fun _ i _ => n - (intOf i).toNat)
    case atStart => exact ⟨0, _, Nat.zero_le _, rfl, rfl, S2, Lib.hid ((Below.refl _ _).alloc (Nat.le_refl _) _)⟩
    case round =>
      clear S2
      obtain ⟨k, v, hk, rfl, rfl, hO, hE⟩ := hrel
      have hBw := Lib.hid (B2.out.trans (hE.out.mono B2.out.size))
      by_cases hlt : k < n
      · obtain ⟨b, off, cz, hv, hb, hcz⟩ := (HY.out.below hBw.out).pos (by rw [← HN.out]; omega)
        obtain ⟨rfl, rfl⟩ : a0 = some ⟨b, off, none⟩ ∧ c0 = cz := by simp at hv; exact ⟨hv.1, hv.2.2⟩
        obtain ⟨p1, p2, p3⟩ := hcz k (by rw [← HN.out]; exact hlt)
        have r1 := (HY.out.1 k).1
        rw [← HLG.out k] at p1 r1
        have HT := Lib.hid (take_step' (l := l) (k := k) (by rw [HL.out]; exact hlt))
        generalize l.getD k 0 = x at *
        have hsz : w2.heap.size ≤ wr.heap.size := hE.out.size
        have hkn : (k : Int) < (n : Int) := by omega
        clear hv hcz p2 p3
        go_wp2_with (first
          | (at_builtin; refine wpList_append_lies _ rfl _ _ _ rfl w2.heap.size 2 i0 (.int .i64 0) 1 8 Tryd.underlying52 hi hz0 hz1 hz2 rfl (by omega) v k _ rfl (hO.out.alloc _) ⟨wr.heap.size, 0, none⟩ 1 1 [.int .i64 x] rfl rfl (World.news_of_block (heap_alloc_new wr _)) (one_one' _) (by omega) (by unfold maxLen; omega) (by omega) (by simp; omega) (wr.heap.size + 1) (by simp) ?_; intro gg cap w3 hown3 hgrow hat hlt2)
          | fail)
        have hE3 := Lib.hid (hE.out.grown (grown_alloc' hgrow) hsz (fun k hk => (hO.out.lt k hk).1))
        have HO3 : Hid (w3.ownsRow w2.heap.size 2 1 (.slice (some ⟨gg, 0, none⟩) (k + 1) cap) (k + 1) ((l.take (k + 1)).map (Value.int .i64))) := by
          rw [HT.out, List.map_append]
          exact hown3
        clear hgrow hown3 hat hlt2
        go_wp2
        go_roundw
        case rel => exact ⟨k + 1, _, by omega, by go_num, rfl, HO3, hE3⟩
        case measure => simp [intOf]; omega
      · have hkn : k = n := by omega
        subst hkn
        have hl0 : Own wr w2.heap.size v (leftTo l zs 0) := by
          have e := hO.out
          rw [show l.take k = l by rw [← HL.out]; exact List.take_length] at e
          unfold Own
          rw [show leftTo l zs 0 = l from rfl, HL.out]
          exact e
        have hvg : ∀ g, v.ownBlock = some g → w2.heap.size ≤ g := fun g hg => (hl0.lt g hg).1
        have LV := Lib.hid (hl0.mono (Nat.le_of_lt X2.out))
        have OV := Lib.hid (show wr.ownsRow w.heap.size 2 1 (.slice (some ⟨w.heap.size, 0, none⟩) 0 0) 0 ((cutsTo l zs 0).map (Value.int .i64)) from own_below O2.out hE.out)
        have NV := Lib.hid (show (Value.slice (some ⟨w.heap.size, 0, none⟩) 0 0).ownBlock ≠ v.ownBlock from fun e => by
          have := hvg w.heap.size e.symm
          have := X2.out
          omega)
        obtain ⟨a, ca, rfl⟩ : ∃ a ca, v = .slice a k ca := by
          rcases hO.out.2 with ⟨e1, e2⟩ | ⟨g, cap, cur, e1, _⟩
          · exact ⟨none, 0, by rw [e1, e2]⟩
          · exact ⟨_, _, e1⟩
        clear hO hE hl0 hvg O2 X2
        go_wp2_with fail
        generalize hwo : wr = wo at *
        clear hwo
        go_loopw [6, 10] (fun o i wr => ∃ (q : Nat) (uo : Value), q ≤ m ∧ i = .int .i64 q ∧ uo = o ∧ Hid (wr.ownsRow w.heap.size 2 1 o q ((cutsTo l zs q).map (Value.int .i64))) ∧ Hid (o.ownBlock ≠ (Value.slice a k ca).ownBlock) ∧ Hid (Own wr w.heap.size (.slice a k ca) (leftTo l zs q)) ∧ Hid (Below w.heap.size w wr)) (fun _ i _ => m - (intOf i).toNat)
        case atStart => exact ⟨0, _, Nat.zero_le _, rfl, rfl, OV, NV, LV, hBw⟩
        case round =>
          clear OV NV LV hBw
          obtain ⟨q, o, hq, rfl, rfl, hO, hN, hL, hBe⟩ := hrel
          by_cases hlt : q < m
          · obtain ⟨b, off, cz, hv, hbz, hcz⟩ := ints_pos (HZ.out.below hBe.out) (by rw [← HM.out]; omega)
            obtain ⟨rfl, rfl⟩ : a1 = some ⟨b, off, none⟩ ∧ c1 = cz := by simp at hv; exact ⟨hv.1, hv.2.2⟩
            have z1 : wr.cell? ⟨b, off + q, none⟩ = some (.int .i64 (zs.getD q 0)) := hcz q (by rw [← HM.out]; exact hlt)
            obtain ⟨d1, d2⟩ := HD.out q hlt
            have CS : cutsTo l zs (q + 1) = cutsTo l zs q ++ [spoolAt (leftTo l zs q) (zs.getD q 0)] := rfl
            have LS : leftTo l zs (q + 1) = spoolOff (leftTo l zs q) (zs.getD q 0) := rfl
            generalize zs.getD q 0 = d at *
            have LB := Lib.hid (HB5.out q hq)
            have LL := Lib.hid (show (leftTo l zs q).length = k from (HLT.out q).trans HL.out)
            obtain ⟨L, hLe⟩ : ∃ L, L = leftTo l zs q := ⟨_, rfl⟩
            rw [← hLe] at hL LB LL CS LS
            have HCS := Lib.hid CS
            have HLS := Lib.hid LS
            have hqm : (q : Int) < (m : Int) := by omega
            obtain ⟨w4, hw4⟩ : ∃ w4, w4 = wr := ⟨_, rfl⟩
            rw [← hw4] at z1 hO hL hBe ⊢
            clear hv hcz CS LS hLe hw4 hbz
            go_wp2_with fail
            go_loopw [11, 12] (fun x i wr => ∃ (y : Int) (j : Nat), j ≤ k ∧ i = .int .i64 j ∧ x = .int .i64 y ∧ Hid (Found L d k j y) ∧ Hid (∃ t, wr = w4.drewN t)) (fun _ i _ => k - (intOf i).toNat)
            case atStart => exact ⟨-1, 0, Nat.zero_le _, rfl, rfl, Lib.hid (.inl ⟨rfl, fun t ht => by omega⟩), Lib.hid ⟨0, rfl⟩⟩
            case round =>
              obtain ⟨y, j, hj, rfl, rfl, hF, hqq⟩ := hrel
              obtain ⟨t, ht⟩ := hqq.out
              subst ht
              rcases hF.out with ⟨rfl, hT⟩ | ⟨f, rfl, hf1, hf2, hf3⟩
              · have HT := Lib.hid hT
                clear hT hF hqq
                by_cases hjk : j < k
                · rcases hL.out.block with ⟨hnil, _⟩ | ⟨g, cap, hv, hg1, hg2, hg3, hgc, hgf⟩
                  · exact absurd LL.out (by rw [hnil]; simp; omega)
                  · rw [LL.out] at hv hgc
                    obtain ⟨rfl, rfl⟩ : a = some ⟨g, 0, none⟩ ∧ ca = cap := by simp at hv; exact ⟨hv.1, hv.2⟩
                    have x1 := hgc j hjk
                    obtain ⟨x, hx⟩ : ∃ x, x = L.getD j 0 := ⟨_, rfl⟩
                    rw [← hx] at x1
                    have HX := Lib.hid hx
                    have hjk' : (j : Int) < (k : Int) := by omega
                    have hj0 : (0 : Int) ≤ (j : Int) := by omega
                    have hq0 : (0 : Int) ≤ (q : Int) := by omega
                    clear hx hgc hgf hg1 hg2 hg3 hv
                    by_cases hd : d ≤ x
                    · have hgd : decide (d ≤ x) = true := decide_eq_true hd
                      have HF := Lib.hid (show Found L d k (j + 1) (j : Int) from .inr ⟨j, rfl, hjk, by rw [← HX.out]; exact hd, HT.out⟩)
                      clear hd
                      go_wp2_with fail
                      go_quiet (fail)
                      go_wp2
                      go_roundw
                      case rel => exact ⟨(j : Int), j + 1, by omega, by go_num, rfl, HF, Lib.hid ⟨_, rfl⟩⟩
                      case measure => simp [intOf]; omega
                    · have hgd : decide (d ≤ x) = false := decide_eq_false hd
                      have HF := Lib.hid (show Found L d k (j + 1) (-1) from .inl ⟨rfl, fun t ht => by
                        by_cases e : t = j
                        · subst e; rw [← HX.out]; omega
                        · exact HT.out t (by omega)⟩)
                      clear hd
                      go_wp2_with fail
                      go_quiet (fail)
                      go_wp2
                      go_roundw
                      case rel => exact ⟨-1, j + 1, by omega, by go_num, rfl, HF, Lib.hid ⟨_, rfl⟩⟩
                      case measure => simp [intOf]; omega
                · have hjk2 : j = k := by omega
                  subst hjk2
                  have HSN := Lib.hid (spool_none (l := L) (d := d) fun t ht => HT.out t (by rw [← LL.out]; exact ht))
                  obtain ⟨w6, hw6⟩ : ∃ w6, w6 = w4.drewN t := ⟨_, rfl⟩
                  have O6 := Lib.hid (show w6.ownsRow w.heap.size 2 1 o q ((cutsTo l zs q).map (Value.int .i64)) by rw [hw6]; exact hO.out)
                  have L6 := Lib.hid (show Own w6 w.heap.size (.slice a j ca) L by rw [hw6]; exact hL.out)
                  have B6 := Lib.hid (show Below w.heap.size w w6 by rw [hw6]; exact below_drewN hBe.out _)
                  rw [← hw6]
                  have hsz6 : w.heap.size ≤ w6.heap.size := B6.out.size
                  clear hw6 HT
                  go_wp2_with (first
                    | (at_builtin; refine wpList_append_lies _ rfl _ _ _ rfl w.heap.size 2 i0 (.int .i64 0) 1 8 Tryd.underlying52 hi hz0 hz1 hz2 rfl (by omega) o q _ rfl (O6.out.alloc _) ⟨w6.heap.size, 0, none⟩ 1 1 [.int .i64 (-1)] rfl rfl (World.news_of_block (heap_alloc_new w6 _)) (one_one' _) (by omega) (by unfold maxLen; omega) (by omega) (by simp; omega) (w6.heap.size + 1) (by simp) ?_; intro gg cap w7 hown7 hgrow7 hat hlt7)
                    | fail)
                  have hnx := cuts_next (cap := cap) O6.out hN.out L6.out B6.out hgrow7 hat
                  have HO7 : Hid (w7.ownsRow w.heap.size 2 1 (.slice (some ⟨gg, 0, none⟩) (q + 1) cap) (q + 1) ((cutsTo l zs (q + 1)).map (Value.int .i64))) := by
                    rw [HCS.out, HSN.out.1, List.map_append]
                    exact hown7
                  have HL7 := Lib.hid hnx.2.1
                  rw [show L = leftTo l zs (q + 1) by rw [HLS.out, HSN.out.2]] at HL7
                  have HN7 := Lib.hid hnx.1
                  have HB7 := Lib.hid hnx.2.2
                  clear hgrow7 hown7 hat hlt7 hnx
                  go_wp2
                  go_roundw
                  case rel => exact ⟨q + 1, _, by omega, by go_num, rfl, HO7, HN7, HL7, HB7⟩
                  case measure => simp [intOf]; omega
              · have HF := Lib.hid hf3
                have HF2 := Lib.hid hf2
                have hf0 : ¬ ((f : Int) < 0) := by omega
                clear hF hqq hf3 hf2
                rcases hL.out.block with ⟨hnil, _⟩ | ⟨g, cap, hv, hg1, hg2, hg3, hgc, hgf⟩
                · exact absurd LL.out (by rw [hnil]; simp; omega)
                · rw [LL.out] at hv hgc
                  obtain ⟨rfl, rfl⟩ : a = some ⟨g, 0, none⟩ ∧ ca = cap := by simp at hv; exact ⟨hv.1, hv.2⟩
                  have x1 := hgc f hf1
                  have x2 := hgf f
                  obtain ⟨x3, x4⟩ := LB.out f hf1
                  obtain ⟨x, hx⟩ : ∃ x, x = L.getD f 0 := ⟨_, rfl⟩
                  rw [← hx] at x1 x3 x4
                  have HX := Lib.hid hx
                  have HG1 := Lib.hid hg1
                  have hfk' : (f : Int) < (k : Int) := by omega
                  have hf0' : (0 : Int) ≤ (f : Int) := by omega
                  have hq0 : (0 : Int) ≤ (q : Int) := by omega
                  have hge : decide ((0 : Int) ≤ (f : Int)) = true := decide_eq_true hf0'
                  have hlt0 : decide ((f : Int) < 0) = false := decide_eq_false hf0
                  have u1 : ∀ [Inhabited Nat], IntKind.i64.wrap (x - d) = x - d := by intro _; exact (IntWalk.i64_in _ (by omega)).trans (by omega)
                  have HSY := Lib.hid (spool_yes (by rw [LL.out]; exact hf1) HF.out HF2.out)
                  have L4r : w4.ownsRow w.heap.size 2 1 (.slice (some ⟨g, 0, none⟩) k ca) k (L.map (Value.int .i64)) := by have := hL.out; unfold Own at this; rwa [LL.out] at this
                  have st5 := L4r.stored f (.int .i64 (x - d))
                  have O5 := Lib.hid (hO.out.kept st5.2 (by
                    cases e : o.ownBlock with
                    | none => exact .inl rfl
                    | some g' => exact .inr fun e' => hN.out (e.trans e')))
                  have L5 := Lib.hid (show Own (w4.setCell ⟨g, f, none⟩ (.int .i64 (x - d))) w.heap.size (.slice (some ⟨g, 0, none⟩) k ca) (leftTo l zs (q + 1)) by
                    rw [HLS.out, HSY.out.2, ← HX.out]
                    unfold Own
                    rw [List.length_set, LL.out, List.map_set]
                    exact st5.1)
                  have B5 := Lib.hid (show Below w.heap.size w (w4.setCell ⟨g, f, none⟩ (.int .i64 (x - d))) from hBe.out.setCell HG1.out _)
                  clear hx hgc hgf hg1 hg2 hg3 hv st5 L4r
                  by_cases hjk : j < k
                  all_goals
                    go_upto_region 20 with fail
                    go_region_with (fail)
                    all_goals
                      go_upto_region 21 with fail
                      obtain ⟨w6, hw6⟩ : ∃ w6, w6 = (w4.drewN (t + 1)).setCell ⟨g, f, none⟩ (.int .i64 (x - d)) := ⟨_, rfl⟩
                      have O6 := Lib.hid (show w6.ownsRow w.heap.size 2 1 o q ((cutsTo l zs q).map (Value.int .i64)) by rw [hw6]; exact O5.out)
                      have L6 := Lib.hid (show Own w6 w.heap.size (.slice (some ⟨g, 0, none⟩) k ca) (leftTo l zs (q + 1)) by rw [hw6]; exact L5.out)
                      have B6 := Lib.hid (show Below w.heap.size w w6 by rw [hw6]; exact (below_drewN hBe.out _).setCell HG1.out _)
                      rw [← hw6]
                      have hsz6 : w.heap.size ≤ w6.heap.size := B6.out.size
                      clear hw6 x1 x2 x3 x4 u1
                      go_wp2_with (first
                        | (at_builtin; refine wpList_append_lies _ rfl _ _ _ rfl w.heap.size 2 i0 (.int .i64 0) 1 8 Tryd.underlying52 hi hz0 hz1 hz2 rfl (by omega) o q _ rfl (O6.out.alloc _) ⟨w6.heap.size, 0, none⟩ 1 1 [.int .i64 (f : Int)] rfl rfl (World.news_of_block (heap_alloc_new w6 _)) (one_one' _) (by omega) (by unfold maxLen; omega) (by omega) (by simp; omega) (w6.heap.size + 1) (by simp) ?_; intro gg cap w7 hown7 hgrow7 hat hlt7)
                        | fail)
                      have hnx := cuts_next (cap := cap) O6.out hN.out L6.out B6.out hgrow7 hat
                      have HO7 : Hid (w7.ownsRow w.heap.size 2 1 (.slice (some ⟨gg, 0, none⟩) (q + 1) cap) (q + 1) ((cutsTo l zs (q + 1)).map (Value.int .i64))) := by
                        rw [HCS.out, HSY.out.1, List.map_append]
                        exact hown7
                      have HL7 := Lib.hid hnx.2.1
                      have HN7 := Lib.hid hnx.1
                      have HB7 := Lib.hid hnx.2.2
                      clear hgrow7 hown7 hat hlt7 hnx
                      go_wp2
                      go_roundw
                      case rel => exact ⟨q + 1, _, by omega, by go_num, rfl, HO7, HN7, HL7, HB7⟩
                      case measure => simp [intOf]; omega
          · have hqm : q = m := by omega
            subst hqm
            go_wp2
            go_ret2
            refine ⟨_, rfl, ?_, hBe.out⟩
            show wr.ownsRow w.heap.size 2 1 o (cutsTo l zs q).length _
            rw [HCT.out]
            exact hO.out
  · rw [show cutsF ys zs = ([], needsF ys zs) by unfold cutsF; rw [if_neg hc]]
    generalize needsF ys zs = c at *
    have hcb : (c != 0) = true := by simp [hc]
    clear h hz
    go_enter Tryd.func32, Tryd.ntmps32
    go_wp2_with fail
    refine (H1.out _ (HY.out.below ((Below.refl _ _).alloc (Nat.le_refl _) _)) (HZ.out.below ((Below.refl _ _).alloc (Nat.le_refl _) _))).mono ?_
    rintro e w2 ⟨rfl, hB⟩
    have B2 := Lib.hid (((Below.refl w.heap.size w).alloc (Nat.le_refl _) _).trans (hB.mono (by simp)))
    have O2 := Lib.hid (own_below S0.out hB)
    clear hB
    go_wp2_with fail
    go_ret2
    exact ⟨_, rfl, O2.out, B2.out⟩
end Go.Proofs.YtpkjogenkdckpaaDoor
