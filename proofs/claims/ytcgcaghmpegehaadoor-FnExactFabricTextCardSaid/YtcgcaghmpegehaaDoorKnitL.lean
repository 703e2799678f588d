/-
  No statement is proved here: what the program knits of rows; condition: its errors lie where its text lays them; at most 1048576 rows of at most 1048576 bytes.
-/
import Derived.Test.YtcgcaghmpegehaaDoorKnitK
import Derived.Deep.RegionLaw
namespace Go.Proofs.YtcgcaghmpegehaaDoor
open Go.ChangeShapes Go.WideShapes Go.ChangeAt Go.RowKit

theorem str_one (a : ByteArray) : ∀ u ∈ [Value.string a], u.oneCell' = true := by intro u hu; simp at hu; subst hu; rfl
theorem int_one (a : Int) : ∀ u ∈ [Value.int .i64 a], u.oneCell' = true := by intro u hu; simp at hu; subst hu; rfl
/-- What a fabric's rows make of a piece. -/
def KnitR (p : Nat → Addr) (c : Int) (L : List ByteArray) (B : Nat) (e : Ending) (w' : World) : Prop :=
  (inB c 1 60 = false ∧ e = .returned (.tuple #[pz, errAt (p 1)])) ∨
  (inB c 1 60 = true ∧ ∃ k : Nat, k < L.length ∧ (∀ j, j < k → fine c L j = true) ∧ fine c L k = false ∧ e = .returned (.tuple #[pz, .iface 65 (.agg #[.int .i64 k])])) ∨
  (okF c L = true ∧ ∃ rv wv, e = .returned (.tuple #[.agg #[.int .i64 c, rv, wv], .nilIface]) ∧ OwnT w' B rv L ∧ Own w' B wv (wdsTo c L (L.length + 1)) ∧ ∀ a b, rv.ownBlock = some a → wv.ownBlock = some b → a ≠ b)
/-- What a region of the piece needs of its box. -/
def S4 (W : World) (pb : Nat) (x y z : Value) : Prop := W.cell? ⟨pb, 0, none⟩ = some x ∧ W.cell? ⟨pb, 1, none⟩ = some y ∧ W.cell? ⟨pb, 2, none⟩ = some z ∧ W.frozen? ⟨pb, 2, none⟩ = false ∧ pb < W.heap.size
theorem s4_below {W w' : World} {pb : Nat} {x y z : Value} (h : S4 W pb x y z) (hB : Below W.heap.size W w') : w'.cell? ⟨pb, 0, none⟩ = some x ∧ w'.cell? ⟨pb, 1, none⟩ = some y ∧ w'.cell? ⟨pb, 2, none⟩ = some z ∧ w'.frozen? ⟨pb, 2, none⟩ = false ∧ pb < w'.heap.size :=
  ⟨kept hB h.2.2.2.2 h.1, kept hB h.2.2.2.2 h.2.1, kept hB h.2.2.2.2 h.2.2.1, (hB.frozen (p := ⟨pb, 2, none⟩) h.2.2.2.2).trans h.2.2.2.1, Nat.lt_of_lt_of_le h.2.2.2.2 hB.size⟩
theorem s4_alloc {W : World} {pb : Nat} {x y z : Value} (o : Obj) (h : S4 W pb x y z) : (W.alloc o).cell? ⟨pb, 0, none⟩ = some x ∧ (W.alloc o).cell? ⟨pb, 1, none⟩ = some y ∧ (W.alloc o).cell? ⟨pb, 2, none⟩ = some z ∧ (W.alloc o).frozen? ⟨pb, 2, none⟩ = false ∧ pb < (W.alloc o).heap.size :=
  s4_below h ((Below.refl _ _).alloc (Nat.le_refl _) _)
theorem s4_grown {W w' : World} {pb : Nat} {x y z : Value} {row : Option Nat} (h : S4 W pb x y z) (hg : W.grownBy w' row) (hne : some pb ≠ row) : w'.cell? ⟨pb, 0, none⟩ = some x ∧ w'.cell? ⟨pb, 1, none⟩ = some y ∧ w'.cell? ⟨pb, 2, none⟩ = some z ∧ w'.frozen? ⟨pb, 2, none⟩ = false ∧ pb < w'.heap.size :=
  ⟨(hg.cell_far ⟨pb, 0, none⟩ h.2.2.2.2 hne).trans h.1, (hg.cell_far ⟨pb, 1, none⟩ h.2.2.2.2 hne).trans h.2.1, (hg.cell_far ⟨pb, 2, none⟩ h.2.2.2.2 hne).trans h.2.2.1, (hg.frozen_far ⟨pb, 2, none⟩ h.2.2.2.2 hne).trans h.2.2.2.1, Nat.lt_of_lt_of_le h.2.2.2.2 hg.size⟩
theorem own_drew {w : World} {b : Nat} {v : Value} {zs : List Int} (h : Own w b v zs) : Own w.drew b v zs := h
theorem kept_row {w w' : World} {base : Nat} {v : Value} {n : Nat} {xs : List Value} {t : TypeId} (h : w.ownsRow base t 1 v n xs) (hB : Below w.heap.size w w') : w'.ownsRow base t 1 v n xs := by
  refine ⟨h.1, ?_⟩
  rcases h.2 with h2 | ⟨g, cap, cur, hv, hg, hh, r⟩
  · exact .inl h2
  · exact .inr ⟨g, cap, cur, hv, hg, by rw [hB.block g (lt_of_block hh)]; exact hh, r⟩
/-- The result's box behind three stores. -/
theorem res3 {wr : World} {rb : Nat} {a b c : Value} (x y z : Value) (h0 : wr.cell? ⟨rb, 0, none⟩ = some a) (h1 : wr.cell? ⟨rb, 1, none⟩ = some b) (h2 : wr.cell? ⟨rb, 2, none⟩ = some c) :
    (wr.setCell ⟨rb, 0, none⟩ x).cell? ⟨rb, 0, none⟩ = some x ∧ ((wr.setCell ⟨rb, 0, none⟩ x).setCell ⟨rb, 1, none⟩ y).cell? ⟨rb, 1, none⟩ = some y ∧ (((wr.setCell ⟨rb, 0, none⟩ x).setCell ⟨rb, 1, none⟩ y).setCell ⟨rb, 2, none⟩ z).cell? ⟨rb, 2, none⟩ = some z :=
  ⟨World.cell?_setCell_same _ _ _ h0, World.cell?_setCell_same _ _ _ ((World.cell?_setCell_other _ _ _ _ (by simp)).trans h1),
   World.cell?_setCell_same _ _ _ ((World.cell?_setCell_other _ _ _ _ (by simp)).trans ((World.cell?_setCell_other _ _ _ _ (by simp)).trans h2))⟩

set_option maxRecDepth 100000 in
set_option maxHeartbeats 8000000 in
theorem knit_any (p : Nat → Addr) (c : Int) (v : Value) (L : List ByteArray) (w : World) (hs : Sent w p) (h : Strs w v L) (hn : L.length ≤ 1048576) (hsz : ∀ j, j < L.length → (rowAt L j).size ≤ 1048576) :
    Calls Tryd.prog 23 #[.int .i64 c, v] w fun e w' => Below w.heap.size w w' ∧ KnitR p c L w.heap.size e w' := by
  have HS := Lib.hid hs
  have HV := Lib.hid h
  have HC := Lib.hid fun wx hx => castCheck_any p c wx hx
  obtain ⟨i0, hi, hz0, hz1, hz2⟩ := info_parts info64
  obtain ⟨j0, hj, hy0, hy1, hy2⟩ := info_parts infoStr
  have q1 := neqNil_err
  have q2 := neqNil_nil
  have B0 : Hid (Below w.heap.size w (w.alloc (.cells #[.int .i64 0, .slice none 0 0, .slice none 0 0] 46))) := (Below.refl w.heap.size w).alloc (Nat.le_refl _) _
  cases hi1 : inB c 1 60 with
  | false =>
    rw [hi1, errIn_no] at HC
    have HR := Lib.hid (show ∀ w', KnitR p c L w.heap.size (.returned (.tuple #[pz, errAt (p 1)])) w' from fun w' => .inl ⟨hi1, rfl⟩)
    unfold pz at HR
    obtain ⟨a1, cp, rfl⟩ := h.len
    clear h hs hi1 hn hsz HV
    go_enter Tryd.func23, Tryd.ntmps23
    go_wp2_with fail
    refine (HC.out _ (HS.out.below B0.out)).mono ?_
    rintro e w1 ⟨rfl, hB⟩
    obtain ⟨k0, l0⟩ := cellsKept hB w.heap.size (by simp)
    have a0 : w1.cell? ⟨w.heap.size, 0, none⟩ = some (.int .i64 0) := (k0 0).trans (by simp [go_sem])
    have a1 : w1.cell? ⟨w.heap.size, 1, none⟩ = some (.slice none 0 0) := (k0 1).trans (by simp [go_sem])
    have a2 : w1.cell? ⟨w.heap.size, 2, none⟩ = some (.slice none 0 0) := (k0 2).trans (by simp [go_sem])
    have f0 : w1.frozen? ⟨w.heap.size, 0, none⟩ = false := (l0 0).trans (by simp [go_sem])
    have f1 : w1.frozen? ⟨w.heap.size, 1, none⟩ = false := (l0 1).trans (by simp [go_sem])
    have f2 : w1.frozen? ⟨w.heap.size, 2, none⟩ = false := (l0 2).trans (by simp [go_sem])
    have B1 := Lib.hid (B0.out.trans (hB.mono (by simp)))
    obtain ⟨r0, r1, r2⟩ := res3 (.int .i64 0) (.slice none 0 0) (.slice none 0 0) a0 a1 a2
    clear k0 l0 hB
    go_wp2
    refine bodyPost_ret (by simp [results, Tryd.results23, go_sem, r0, r1, r2]; try rfl) rfl ?_
    exact ⟨below_set (below_set (below_set B1.out (Nat.le_refl _) _) (Nat.le_refl _) _) (Nat.le_refl _) _, HR.out _⟩
  | true =>
    rw [hi1, errIn_yes] at HC
    have hcb := inB_of hi1
    have HY := Lib.hid (show (∀ j, j < L.length → fine c L j = true) → okF c L = true from fun h => okF_mk hi1 h)
    have HN := Lib.hid (show ∀ k w', k < L.length → (∀ j, j < k → fine c L j = true) → fine c L k = false → KnitR p c L w.heap.size (.returned (.tuple #[pz, .iface 65 (.agg #[.int .i64 (k : Int)])])) w' from fun k w' hk ha hr => .inr (.inl ⟨hi1, k, hk, ha, hr, rfl⟩))
    unfold pz at HN
    have HWB := Lib.hid fun k h => wd_bd hcb (k := k) (L := L) h
    have HSZ := Lib.hid hsz
    have HTS := Lib.hid fun k hk => take_succ L k hk
    have HTL := Lib.hid (show ∀ k, k ≤ L.length → (L.take k).length = k from fun k hk => by rw [List.length_take]; omega)
    have HALL := Lib.hid (show L.take L.length = L from List.take_of_length_le (Nat.le_refl _))
    have HM := Lib.hid fun k wx (ha : fine c L k = true) (hk : (rowAt L k).size ≤ 1048576) => makes_total (rowAt L k) wx (canB_parts ha).1 hk
    have HE := Lib.hid fun k => show makesF (rowAt L k) = wd c L (k + 1) from rfl
    have HSrc : Hid (∃ a1 cp, v = .slice a1 L.length cp ∧ ∀ k, k < L.length → ∃ b off, a1 = some ⟨b, off, none⟩ ∧ b < w.heap.size ∧ w.cell? ⟨b, off + k, none⟩ = some (.string (rowAt L k))) := by
      rcases h with ⟨a1, cp, rfl, rfl⟩ | ⟨b, off, cap, rfl, h0, hb, hc⟩
      · exact ⟨a1, cp, rfl, fun k hk => absurd hk (Nat.not_lt_zero k)⟩
      · exact ⟨_, cap, rfl, fun k hk => ⟨b, off, rfl, hb, hc k hk⟩⟩
    obtain ⟨a1, cp, rfl, hsrc⟩ := HSrc.out
    have HSR := Lib.hid hsrc
    have HLL := Lib.hid (show (fun n => n) L.length = L.length from rfl)
    obtain ⟨n, hln⟩ : ∃ n, n = L.length := ⟨_, rfl⟩
    have HL := Lib.hid hln
    rw [← hln] at hn HY HN HSZ HTL HALL HSR HTS ⊢
    clear h hs hi1 hsz HV HSrc hsrc HLL hln hcb
    go_enter Tryd.func23, Tryd.ntmps23
    go_wp2_with fail
    refine (HC.out _ (HS.out.below B0.out)).mono ?_
    rintro e w1 ⟨rfl, hB⟩
    have K0 := Lib.hid (KI.start (c := c) (L := L) 46 46 (hB.mono (show w.heap.size + 1 ≤ _ by simp)))
    clear hB HC
    go_wp2_with fail
    generalize (w1.alloc (.cells #[.int .i64 c] 2)).alloc (.cells #[.int .i64 c, .slice none 0 0, .slice (some ⟨w1.heap.size, 0, none⟩) 1 1] 46) = w2 at *
    generalize w1.heap.size + 1 = pb at *
    go_loopw [22] (fun i wr => ∃ (k : Nat) (rv wv : Value), k ≤ n ∧ i = .int .i64 k ∧ Hid (KI c L w wr pb k (k + 1) rv wv) ∧ Hid (∀ j, j < k → fine c L j = true)) (fun i _ => n - (intOf i).toNat)
    case atStart => exact ⟨0, _, _, Nat.zero_le _, rfl, K0, fun j hj => absurd hj (Nat.not_lt_zero j)⟩
    case round =>
      clear K0
      obtain ⟨k, rv, wv, hk, rfl, hK, hA⟩ := hrel
      obtain ⟨ra, rc, rfl⟩ : ∃ ra rc, rv = .slice ra k rc := by
        obtain ⟨ra, rc, e⟩ := hK.out.2.2.1.1.strs.len
        rw [HTL.out k hk] at e
        exact ⟨ra, rc, e⟩
      obtain ⟨wa, wc, rfl⟩ : ∃ wa wc, wv = .slice wa (k + 1 : Nat) wc := by
        obtain ⟨wa, wc, e⟩ := hK.out.2.2.1.2.ints.len
        rw [wdsTo_length] at e
        exact ⟨wa, wc, e⟩
      obtain ⟨⟨p0, p1, p2, _⟩, _⟩ := hK.out
      by_cases hlt : k < n
      · obtain ⟨b, off, rfl, hbw, hcell⟩ := HSR.out k hlt
        have c1 : wr.cell? ⟨b, off + k, none⟩ = some (.string (rowAt L k)) := kept hK.out.2.2.2.2.1 hbw hcell
        have CT := Lib.hid fun wx (hx : Ints wx (.slice wa (k + 1 : Nat) wc) (wdsTo c L (k + 1))) => canTake_any c ra rc k _ _ (rowAt L k) wx hx (wdsTo_length _ _ _) (by omega) (by rw [wdsTo_get c L (k + 1) k (by omega)]; exact (HWB.out k hA.out).1) (HSZ.out k hlt)
        rw [wdsTo_get c L (k + 1) k (by omega)] at CT
        have hn1 := HN.out k
        have HM1 := Lib.hid fun wx ha => HM.out k wx ha (HSZ.out k hlt)
        rw [HE.out k] at HM1
        have HTS1 := Lib.hid (HTS.out k hlt)
        have HTL1 := Lib.hid (HTL.out k hk)
        cases hf : fine c L k with
        | false =>
          rw [show canB k (wd c L k) (rowAt L k) = false from hf] at CT
          have HR := Lib.hid fun w' => hn1 w' hlt hA.out hf
          clear hn1 hf HM1 hcell
          generalize rowAt L k = s at *
          go_wp2_with fail
          refine (CT.out _ hK.out.2.2.1.2.ints).mono ?_
          rintro e w3 ⟨rfl, hB⟩
          have K1 := Lib.hid (hK.out.below hB)
          obtain ⟨_, ⟨b0, b1, b2, b3⟩, _, _, hb, l1, l2⟩ := K1.out
          have f0 := b3 0
          have f1 := b3 1
          have f2 := b3 2
          have B1 := Lib.hid hb
          obtain ⟨r0, r1, r2⟩ := res3 (.int .i64 0) (.slice none 0 0) (.slice none 0 0) b0 b1 b2
          clear hB hb b3 l1 l2 CT
          go_wp2
          refine bodyPost_ret (by simp [results, Tryd.results23, go_sem, r0, r1, r2]; try rfl) rfl ?_
          exact ⟨below_set (below_set (below_set B1.out (Nat.le_refl _) _) (Nat.le_refl _) _) (Nat.le_refl _) _, HR.out _⟩
        | true =>
          rw [show canB k (wd c L k) (rowAt L k) = true from hf] at CT
          have HM2 := Lib.hid fun wx => HM1.out wx hf
          have HA2 : Hid (∀ j, j < k + 1 → fine c L j = true) := fun j hj => by
            by_cases e : j = k
            · subst e; exact hf
            · exact hA.out j (by omega)
          have HW2 := Lib.hid (wdsTo_succ c L (k + 1))
          clear hn1 hf HM1 hcell hA HM
          generalize rowAt L k = s at *
          generalize wd c L (k + 1) = x at *
          go_wp2_with fail
          refine (CT.out _ hK.out.2.2.1.2.ints).mono ?_
          rintro e w3 ⟨rfl, hB⟩
          have K1 := Lib.hid (hK.out.below hB)
          clear hB p0 p1 p2 CT hK c1
          obtain ⟨⟨p0, p1, p2, pf⟩, _, _, ⟨pn1, pn2, _⟩, _, l1, l2⟩ := K1.out
          have F1 := Lib.hid pf
          have N1 := Lib.hid (And.intro (show some pb ≠ _ from fun e => pn1 e.symm) (show some pb ≠ _ from fun e => pn2 e.symm))
          have L1 := Lib.hid l1
          have R1 : Hid (w3.ownsRow (w.heap.size + 1) 9 1 (.slice ra k rc) k ((L.take k).map Value.string)) := by
            have h := K1.out.2.2.1.1.row
            rw [HTL1.out] at h
            exact h
          have HC1 : Hid (w.heap.size + 1 ≤ w3.heap.size) := Nat.succ_le_of_lt (Nat.lt_trans l2 l1)
          clear pf pn1 pn2 l1 l2
          go_wp2_with (first
            | (at_builtin; refine wpList_append_lies _ rfl _ _ _ rfl (w.heap.size + 1) 9 j0 (.string ByteArray.empty) 1 16 Tryd.underlying23 hj hy0 hy1 hy2 rfl (by omega) (.slice ra k rc) k _ rfl (R1.out.alloc _) ⟨w3.heap.size, 0, none⟩ 1 1 _ rfl rfl (World.news_of_block (heap_alloc_new w3 _)) (str_one _) (by omega) (by unfold maxLen; omega) (by omega) (by simp; have := HC1.out; omega) (w3.heap.size + 1) (by simp) ?_; intro g1 cap1 w4 hown1 hgrow1 hat1 hlt1; have m1 := ((grown_al hgrow1).cell_far ⟨pb, 1, none⟩ L1.out N1.out.1).trans p1; have mf1 := ((grown_al hgrow1).frozen_far ⟨pb, 1, none⟩ L1.out N1.out.1).trans (F1.out 1))
            | fail)
          have O2 : Hid (OwnT w4 (w.heap.size + 1) (.slice (some ⟨g1, 0, none⟩) (k + 1 : Nat) cap1) (L.take (k + 1))) := by
            show World.ownsRow _ _ _ _ _ _ _
            rw [HTS1.out, List.map_append, List.length_append, HTL1.out, List.map_singleton]
            exact hown1
          have K2 := Lib.hid (KI.row K1.out O2.out hgrow1 hat1)
          clear hown1 hgrow1 hat1 hlt1 m1 mf1 p0 p1 p2 R1 O2 K1 HC1 L1 N1 F1
          generalize w4.setCell ⟨pb, 1, none⟩ (.slice (some ⟨g1, 0, none⟩) (k + 1 : Nat) cap1) = w5 at *
          obtain ⟨⟨p0, p1, p2, pf⟩, _, _, ⟨_, pn2, _⟩, _, l1, l2⟩ := K2.out
          have pf2 := pf 2
          have N1 := Lib.hid (show some pb ≠ _ from fun e => pn2 e.symm)
          have S1 : Hid (S4 w5.drew pb _ _ _) := ⟨p0, p1, p2, pf2, l1⟩
          have R1 : Hid (w5.drew.ownsRow (w.heap.size + 1) 2 1 (.slice wa (k + 1 : Nat) wc) (k + 1) ((wdsTo c L (k + 1)).map (Value.int .i64))) := by
            have h := K2.out.2.2.1.2.row
            rw [wdsTo_length] at h
            exact h
          have HC2 : Hid (w.heap.size + 1 ≤ w5.heap.size) := Nat.succ_le_of_lt (Nat.lt_trans l2 l1)
          clear pf pf2 pn2 l1 l2
          first
            | (go_region_law (first | (refine step_append_lies _ (by rfl) _ _ _ (by rfl) (w.heap.size + 1) 2 i0 (.int .i64 0) 1 8 Tryd.underlying44 hi hz0 hz1 hz2 rfl (by omega) (.slice wa (k + 1 : Nat) wc) (k + 1) _ (by rfl) ((kept_row R1.out hB2).alloc _) ⟨w6.heap.size, 0, none⟩ 1 1 _ (by rfl) rfl (World.news_of_block (heap_alloc_new w6 _)) (int_one _) (by omega) (by unfold maxLen; omega) (by omega) (by have := HC2.out; have := hB2.size; simp at *; omega) (w6.heap.size + 1) (by simp) ?_; intro g2 cap2 w7 hown2 hgrow2 hat2 hlt2; have m2 := ((grown_al hgrow2).cell_far ⟨pb, 2, none⟩ hl6 N1.out).trans k2; have mf2 := ((grown_al hgrow2).frozen_far ⟨pb, 2, none⟩ hl6 N1.out).trans kf2) | (go_simp; go_at_call 31; refine (HM2.out _).mono ?_; rintro e w6 ⟨rfl, hB2⟩; obtain ⟨_, _, k2, kf2, hl6⟩ := s4_below S1.out hB2) | fail))
            | fail
          all_goals
            have O3 : Hid (Own w7 (w.heap.size + 1) (.slice (some ⟨g2, 0, none⟩) (k + 1 + 1 : Nat) cap2) (wdsTo c L (k + 1 + 1))) := by
              show World.ownsRow _ _ _ _ _ _ _
              rw [HW2.out, List.map_append, List.length_append, wdsTo_length, List.map_singleton]
              exact hown2
            have K3 := Lib.hid (KI.wid (KI.below (KI.below K2.out (Below.refl w5.heap.size w5).drew) hB2) O3.out hgrow2 hat2)
            clear hown2 hgrow2 hat2 hlt2 m2 mf2 O3 K2 R1 S1 p0 p1 p2 k2 kf2 hl6
            go_wp2
            go_roundw
            case rel => exact ⟨k + 1, _, _, by omega, by go_num, K3, HA2⟩
            case measure => simp [intOf]; omega
      · have hkn : k = n := by omega
        subst hkn
        obtain ⟨_, ⟨b0, b1, b2, b3⟩, ⟨o1, o2⟩, ⟨_, _, n3⟩, hb, _, _⟩ := hK.out
        rw [HALL.out] at o1
        have f0 := b3 0
        have f1 := b3 1
        have f2 := b3 2
        obtain ⟨r0, r1, r2⟩ := res3 (.int .i64 c) (.slice ra k rc) (.slice wa (k + 1 : Nat) wc) b0 b1 b2
        have HR := Lib.hid (HY.out hA.out)
        have O1 := Lib.hid o1
        have O2 := Lib.hid o2
        have N3 := Lib.hid n3
        have B1 := Lib.hid hb
        clear o1 o2 n3 hb b3 hK
        go_wp2
        refine bodyPost_ret (by simp [results, Tryd.results23, go_sem, r0, r1, r2]; try rfl) rfl ?_
        refine ⟨below_set (below_set (below_set B1.out (Nat.le_refl _) _) (Nat.le_refl _) _) (Nat.le_refl _) _, .inr (.inr ⟨HR.out, _, _, rfl, ?_, ?_, N3.out⟩)⟩
        · exact OwnT.mono (base := w.heap.size + 1) (ownsRow_setCell_below (ownsRow_setCell_below (ownsRow_setCell_below O1.out (by simp) _) (by simp) _) (by simp) _) (Nat.le_succ _)
        · rw [← HL.out]
          exact Own.mono (base := w.heap.size + 1) (ownsRow_setCell_below (ownsRow_setCell_below (ownsRow_setCell_below O2.out (by simp) _) (by simp) _) (by simp) _) (Nat.le_succ _)
end Go.Proofs.YtcgcaghmpegehaaDoor
