/-
  No statement is proved here: needs that are cut from yarns, as the program cuts them; condition: the errors lie where the text lays them; at most 1048576 yarns and needs.
-/
import Derived.Test.YtpkjogenkdckpaaDoorNeeds
import Derived.Test.YtpkjogenkdckpaaDoorSpools
namespace Go.Proofs.YtpkjogenkdckpaaDoor
open Go.ChangeShapes Go.WideShapes Go.ChangeAt Go.RowKit

/-- What CutsFrom answers. -/
def cutsF (ys : List Yn) (zs : List Int) : List Int × Int := if needsF ys zs = 0 then (cutsTo (longs ys) zs zs.length, 0) else ([], needsF ys zs)
theorem cutsF_len (ys : List Yn) (zs : List Int) (hm : zs.length ≤ 1048576) : (cutsF ys zs).1.length ≤ 2097152 := by
  unfold cutsF
  split
  · rw [cutsTo_length]; omega
  · simp

theorem cut_yes (g n cap i : Nat) (d x : Int) (w : World) (hi : (i : Int) < (n : Int)) (hc : w.cell? ⟨g, i, none⟩ = some (.int .i64 x)) (hf : w.frozen? ⟨g, i, none⟩ = false) (h : d ≤ x) (h1 : 0 ≤ d) (h2 : x ≤ 5000) :
    Calls Tryd.prog 67 #[.slice (some ⟨g, 0, none⟩) n cap, .int .i64 i, .int .i64 d] w fun e w' => e = .returned (.bool true) ∧ w' = w.setCell ⟨g, i, none⟩ (.int .i64 (x - d)) := by
  go_enter Tryd.func67, Tryd.ntmps67
  go_wp2
  go_ret
  exact ⟨rfl, rfl⟩
theorem cut_no (g n cap i : Nat) (d x : Int) (w : World) (hi : (i : Int) < (n : Int)) (hc : w.cell? ⟨g, i, none⟩ = some (.int .i64 x)) (h : x < d) :
    Calls Tryd.prog 67 #[.slice (some ⟨g, 0, none⟩) n cap, .int .i64 i, .int .i64 d] w fun e w' => e = .returned (.bool false) ∧ w = w' := by
  go_enter Tryd.func67, Tryd.ntmps67
  go_wp2
  go_ret
  exact ⟨rfl, rfl⟩

theorem set_set {l : List Value} {k : Nat} {a b : Value} : (l.set k a).set k b = l.set k b := by simp

set_option maxRecDepth 100000 in
set_option maxHeartbeats 8000000 in
theorem implCuts_any (p : Nat → Addr) (v u : Value) (ys : List Yn) (zs : List Int) (w : World) (hs : Sent w p) (h : Yarns w v ys) (hz : Ints w u zs) (hn : ys.length ≤ 1048576) (hm : zs.length ≤ 1048576) :
    Calls Tryd.prog 34 #[v, u] w fun e w' => ∃ r, e = .returned (.tuple #[r, .int .i64 (cutsF ys zs).2]) ∧ Own w' w.heap.size r (cutsF ys zs).1 ∧ Below w.heap.size w w' := by
  obtain ⟨i0, hi, hz0, hz1, hz2⟩ := info_parts info64
  have H1 := Lib.hid (checkCuts_any p v u ys zs w hs h hz hn hm)
  have q1 := neqNil_err
  have q2 := neqNil_nil
  have HS := Lib.hid hs
  have HY := Lib.hid h
  have HZ := Lib.hid hz
  obtain ⟨a0, c0, rfl⟩ := h.len
  have hul : ∃ a1 c1, u = .slice a1 zs.length c1 := by
    rcases hz with ⟨a, c, rfl, rfl⟩ | ⟨b, off, c, rfl, _⟩
    · exact ⟨_, _, rfl⟩
    · exact ⟨_, _, rfl⟩
  obtain ⟨a1, c1, rfl⟩ := hul
  by_cases hc : needsF ys zs = 0
  · rw [show cutsF ys zs = (cutsTo (longs ys) zs zs.length, 0) by unfold cutsF; rw [if_pos hc]]
    rw [hc, errOf_zero] at H1
    obtain ⟨hY1, hZ1, hY2, hZ2⟩ := needsF_zero hc
    have HW := Lib.hid fun wx hx => spoolsOf_any (.slice a0 ys.length c0) ys wx hx hn
    have HL := Lib.hid (show (longs ys).length = ys.length from longs_length ys)
    have HB5 := Lib.hid (show ∀ k, k ≤ zs.length → ∀ j, j < ys.length → 0 ≤ (leftTo (longs ys) zs k).getD j 0 ∧ (leftTo (longs ys) zs k).getD j 0 ≤ 5000 from fun k hk j hj => by
      refine leftTo_bd (fun j hj => ?_) (fun j hj => (allL_get hZ1 j hj).1) k hk j (by rw [longs_length]; exact hj)
      rw [longs_length] at hj
      rw [longs_get]
      obtain ⟨x1, x2⟩ := (show 1 ≤ (yat ys j).1 ∧ (yat ys j).1 ≤ 5000 from (okY_of (allY_get hY1 j hj)).1)
      exact ⟨by omega, x2⟩)
    have HD := Lib.hid (fun j hj => allL_get hZ1 j hj)
    have HLT := Lib.hid (leftTo_length (longs ys) zs)
    have HCT := Lib.hid (cutsTo_length (longs ys) zs zs.length)
    have HCG := Lib.hid (cutsTo_get (longs ys) zs zs.length)
    generalize longs ys = l at *
    clear hc hY1 hZ1 hs h hz
    obtain ⟨n, hln⟩ : ∃ n, n = ys.length := ⟨_, rfl⟩
    rw [← hln] at hn hY2 HL HB5 HY HW H1 ⊢
    obtain ⟨m, hlm⟩ : ∃ m, m = zs.length := ⟨_, rfl⟩
    rw [← hlm] at hm hZ2 HB5 HD HCT HCG HZ H1 ⊢
    have HM := Lib.hid hlm
    clear hln hlm
    obtain ⟨R, hR⟩ : ∃ R, R = cutsTo l zs m := ⟨_, rfl⟩
    have HRL := Lib.hid (show R.length = m by rw [hR]; exact HCT.out)
    have HRG := Lib.hid (show ∀ k, k < m → R.getD k 0 = spoolAt (leftTo l zs k) (zs.getD k 0) by rw [hR]; exact HCG.out)
    rw [← hR]
    clear hR
    have hn10 : (n : Int) ≤ 10 := by omega
    have hm6 : (m : Int) ≤ 6 := by omega
    go_enter Tryd.func34, Tryd.ntmps34
    go_wp2_with fail
    refine H1.out.mono ?_
    rintro e w1 ⟨rfl, hB⟩
    have B1 := Lib.hid hB
    clear hB
    go_wp2_with fail
    refine (HW.out _ (HY.out.below B1.out)).mono ?_
    rintro e w2 ⟨us, rfl, own, hB⟩
    have B2 := Lib.hid (B1.out.trans (hB.mono B1.out.size))
    have O2 := Lib.hid (own.mono B1.out.size)
    clear hB own
    obtain ⟨C, hCe⟩ : ∃ C, C = w2.heap.size := ⟨_, rfl⟩
    have HC := Lib.hid hCe
    go_wp2_with (first | (at_make; refine wpList_make_full _ rfl _ _ 52 rfl w.heap.size 2 i0 (.int .i64 0) 1 Tryd.underlying52 hi hz0 hz1 _ _ _ _ m rfl rfl rfl rfl (by rw [hz2]; omega) (by unfold maxLen; omega) B2.out.size ?_; intro w3 hown hgrow) | fail)
    have hB3 : Below w.heap.size w w3 := B2.out.grown hgrow B2.out.size (fun k hk => by cases hk)
    have O3 := Lib.hid (O2.out.kept hgrow (by cases us.ownBlock <;> simp))
    have hA3 : ∀ g, us.ownBlock = some g → g < C := fun g hg => by rw [hCe]; exact (O2.out.lt g hg).2
    have HA3 := Lib.hid hA3
    rw [← hCe] at hown ⊢
    have hfl := fun k (hk : k ≤ m) => fill_length R k (by rw [HRL.out]; exact hk)
    have hst := fun k (hk : k < m) => fill_step R k (by rw [HRL.out]; exact hk)
    have hz0' : (madeCells (Value.int IntKind.i64 0).cells (m * 1)).toList = (fill R 0).map (Value.int .i64) := by
      rw [fill_zero, HRL.out, Nat.mul_one]
      show (madeCells #[Value.int IntKind.i64 0] m).toList = _
      rw [toList_madeCells_one]
      simp
    rw [hz0'] at hown
    have HCW := Lib.hid (show w.heap.size ≤ C by rw [hCe]; exact B2.out.size)
    have HO := Lib.hid hown
    have HB := Lib.hid hB3
    have HFL := Lib.hid hfl
    have HST := Lib.hid hst
    clear hown hgrow hz0' hfl hst hCe hB3 hA3
    go_loopw [27] (fun i wr => ∃ k : Nat, k ≤ m ∧ i = .int .i64 k ∧ Hid (wr.ownsRow w.heap.size 2 1 (.slice (some ⟨C, 0, none⟩) m m) m ((fill R k).map (Value.int .i64))) ∧ Hid (Own wr w.heap.size us (leftTo l zs k)) ∧ Hid (Below w.heap.size w wr)) (fun i _ => m - (intOf i).toNat)
    case atStart => exact ⟨0, Nat.zero_le _, rfl, HO, O3, HB⟩
    case round =>
      obtain ⟨k, hk, rfl, hO, hL, hBe⟩ := hrel
      by_cases hlt : k < m
      · obtain ⟨b, off, cz, hv, hcz⟩ := (HZ.out.below hBe.out).pos (by rw [← HM.out]; omega)
        obtain ⟨rfl, rfl⟩ : a1 = some ⟨b, off, none⟩ ∧ c1 = cz := by simp at hv; exact ⟨hv.1, hv.2.2⟩
        have z1 : wr.cell? ⟨b, off + k, none⟩ = some (.int .i64 (zs.getD k 0)) := hcz k (by rw [← HM.out]; exact hlt)
        obtain ⟨d1, d2⟩ := HD.out k hlt
        have RG := HRG.out k hlt
        have LS : leftTo l zs (k + 1) = spoolOff (leftTo l zs k) (zs.getD k 0) := rfl
        generalize zs.getD k 0 = d at *
        have LB := Lib.hid (HB5.out k hk)
        have LL := Lib.hid (show (leftTo l zs k).length = n from (HLT.out k).trans HL.out)
        obtain ⟨L, hLe⟩ : ∃ L, L = leftTo l zs k := ⟨_, rfl⟩
        rw [← hLe] at hL LB LL RG LS
        have HRG1 := Lib.hid RG
        have HLS1 := Lib.hid LS
        have kc : wr.cell? ⟨C, k, none⟩ = some (.int .i64 ((fill R k).getD k 0)) := (hO.out.cellAt k (by omega)).trans (cellOf (by rw [HFL.out k hk, HRL.out]; exact hlt))
        have kf : wr.frozen? ⟨C, k, none⟩ = false := hO.out.frozenAt k
        clear hv hcz RG LS hLe
        go_wp2_with fail
        obtain ⟨w4, hw4⟩ : ∃ w4, w4 = wr.setCell ⟨C, k, none⟩ (.int .i64 (-1)) := ⟨_, rfl⟩
        have hst4 := hO.out.stored k (.int .i64 (-1))
        rw [← hw4] at hst4 ⊢
        have L4 := Lib.hid (hL.out.kept hst4.2 (by
          cases e : us.ownBlock with
          | none => exact .inl rfl
          | some g => exact .inr fun e' => by have := HA3.out g e; have := Option.some.inj e'; omega))
        have O4 := Lib.hid hst4.1
        have B4 := Lib.hid (show Below w.heap.size w w4 by rw [hw4]; exact hBe.out.setCell HCW.out _)
        clear hst4 hw4 hO hL hBe kc kf z1
        go_loop [37] (fun j => ∃ i : Nat, i ≤ n ∧ j = .int .i64 i ∧ Hid (∀ t, t < i → L.getD t 0 < d)) (fun j => n - (intOf j).toNat)
        case atStart => exact ⟨0, Nat.zero_le _, rfl, Lib.hid fun t ht => by omega⟩
        case round =>
          obtain ⟨i, hi, rfl, hT⟩ := hrel
          by_cases hin : i < n
          · rcases L4.out.block with ⟨hnil, _⟩ | ⟨g, cap, hv, hg1, hg2, hg3, hgc, hgf⟩
            · exact absurd LL.out (by rw [hnil]; simp; omega)
            · rw [LL.out] at hv hgc
              subst hv
              have hgC : g < C := HA3.out g rfl
              have x1 := hgc i hin
              have x2 := hgf i
              obtain ⟨x3, x4⟩ := LB.out i hin
              have hii : (i : Int) < (n : Int) := by omega
              obtain ⟨x, hx⟩ : ∃ x, x = L.getD i 0 := ⟨_, rfl⟩
              rw [← hx] at x1 x3 x4
              have HX := Lib.hid hx
              have HG1 := Lib.hid hg1
              clear hx hgc hgf hg1 hg2 hg3
              by_cases hd : d ≤ x
              · have HY1 := Lib.hid (spool_yes (by rw [LL.out]; exact hin) hT.out (by rw [← HX.out]; exact hd))
                have L4r : w4.ownsRow w.heap.size 2 1 (.slice (some ⟨g, 0, none⟩) n cap) n (L.map (Value.int .i64)) := by have := L4.out; unfold Own at this; rwa [LL.out] at this
                have st5 := L4r.stored i (.int .i64 (x - d))
                have O5 := O4.out.kept st5.2 (.inr fun e' => by have := Option.some.inj (show some C = some g from e'); omega)
                have L5 := Lib.hid st5.1
                have kc : (w4.setCell ⟨g, i, none⟩ (.int .i64 (x - d))).cell? ⟨C, k, none⟩ = some (.int .i64 (-1)) := (O5.cellAt k (by omega)).trans (by simp [HFL.out k hk, HRL.out, hlt])
                have kf : (w4.setCell ⟨g, i, none⟩ (.int .i64 (x - d))).frozen? ⟨C, k, none⟩ = false := O5.frozenAt k
                have HO5 := Lib.hid O5
                have HCT' := Lib.hid (cut_yes g n cap i d x w4 hii x1 x2 hd (by omega) x4)
                clear st5 O5 L4r x1 x2 hT
                go_wp2_with fail
                refine HCT'.out.mono ?_
                rintro e w5 ⟨rfl, hw5⟩
                rw [← hw5] at kc kf HO5 L5
                have B5 := Lib.hid (show Below w.heap.size w w5 by rw [hw5]; exact B4.out.setCell HG1.out _)
                clear hw5
                go_wp2_with fail
                go_roundw
                case rel =>
                  have st6 := HO5.out.stored k (.int .i64 (i : Int))
                  have e1 : (((fill R k).map (Value.int .i64)).set k (.int .i64 (-1))).set k (.int .i64 (i : Int)) = (fill R (k + 1)).map (Value.int .i64) := by
                    rw [set_set, ← List.map_set, ← HST.out k hlt, HRG1.out, HY1.out.1]
                  rw [e1] at st6
                  have L6 := L5.out.kept st6.2 (.inr fun e' => by have := Option.some.inj (show some g = some C from e'); omega)
                  rw [← List.map_set, show L.set i (x - d) = leftTo l zs (k + 1) by rw [HLS1.out, HY1.out.2, ← HX.out]] at L6
                  refine ⟨k + 1, by omega, by go_num, Lib.hid st6.1, Lib.hid ?_, Lib.hid (B5.out.setCell HCW.out _)⟩
                  unfold Own
                  rw [show (leftTo l zs (k + 1)).length = n from (HLT.out (k + 1)).trans HL.out]
                  exact L6
                case measure => simp [intOf]; omega
              · have HCN := Lib.hid (cut_no g n cap i d x w4 hii x1 (by omega))
                clear x1 x2
                go_wp2_with fail
                refine HCN.out.mono ?_
                rintro e w' ⟨rfl, rfl⟩
                go_wp2_with fail
                go_round
                case rel => exact ⟨i + 1, by omega, by go_num, Lib.hid fun t ht => by
                  by_cases e : t = i
                  · subst e; rw [← HX.out]; omega
                  · exact hT.out t (by omega)⟩
                case measure => simp [intOf]; omega
          · have hie : i = n := by omega
            subst hie
            have HN := Lib.hid (spool_none (l := L) (d := d) fun t ht => hT.out t (by rw [← LL.out]; exact ht))
            clear hT
            go_wp2_with fail
            go_roundw
            case rel =>
              have e1 : ((fill R k).map (Value.int .i64)).set k (.int .i64 (-1)) = (fill R (k + 1)).map (Value.int .i64) := by
                rw [← List.map_set, ← HST.out k hlt, HRG1.out, HN.out.1]
              have h4 := O4.out
              rw [e1] at h4
              have h5 := L4.out
              rw [show L = leftTo l zs (k + 1) by rw [HLS1.out, HN.out.2]] at h5
              exact ⟨k + 1, by omega, by go_num, Lib.hid h4, Lib.hid h5, B4⟩
            case measure => simp [intOf]; omega
      · have hkn : k = m := by omega
        subst hkn
        have e : fill R k = R := by rw [← HRL.out]; exact fill_all R
        go_wp2
        go_ret2
        refine ⟨_, rfl, ?_, hBe.out⟩
        have h := hO.out
        rw [e] at h
        unfold Own
        rw [HRL.out]
        exact h
  · rw [show cutsF ys zs = ([], needsF ys zs) by unfold cutsF; rw [if_neg hc]]
    rw [errOf_not p hc] at H1
    have hcd := needsF_bd ys zs
    have HK := Lib.hid fun wx hx => codeOf_c (p := p) (needsF ys zs) (by omega) (by omega) wx hx
    generalize p (needsF ys zs - 1).toNat = ad at *
    generalize needsF ys zs = c at *
    clear h hs hc hcd hz
    go_enter Tryd.func34, Tryd.ntmps34
    go_wp2_with fail
    refine H1.out.mono ?_
    rintro e w1 ⟨rfl, hB⟩
    have B1 := Lib.hid hB
    clear hB
    go_wp2_with fail
    refine (HK.out _ (HS.out.below B1.out)).mono ?_
    rintro e w' ⟨rfl, rfl⟩
    go_wp2_with fail
    go_ret2
    exact ⟨_, rfl, World.ownsRow_nil _ _ _ _, B1.out⟩
end Go.Proofs.YtpkjogenkdckpaaDoor
