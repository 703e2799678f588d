/-
  No statement is proved here: what a plan leaves, in the program; condition: lots and orders that are valid, at most 1048576 numbers of a plan.
-/
import Derived.Test.YtklgklkfolbjcaaLfI
import Derived.Test.YtklgklkfolbjcaaLfC
namespace Go.Proofs.Ytklgklkfolbjcaa
open Go.ChangeShapes Go.WideShapes Go.ChangeAt Go.RowKit

theorem ret_leftI {u : Value} {a b : Bool} (h : a = b) : Ending.returned (.tuple #[u, .bool a]) = .returned (.tuple #[u, .bool b]) := by rw [h]
set_option maxRecDepth 100000 in
set_option maxHeartbeats 16000000 in
theorem leftBy_any (va vo vp : Value) (T : List Lt) (os : List Od) (ps : List Int) (w : World) (ha : Lts w va T) (ho : Ods w vo os) (hp : Ints w vp ps) (hT : isLts T = true) (hO : isOds os = true) (hn : ps.length ≤ 1048576) :
    Calls Try.prog 50 #[va, vo, vp] w fun e w' => ∃ u, e = .returned (.tuple #[u, .bool (leftT T os ps).isSome]) ∧ (∀ U, leftT T os ps = some U → OwnLt w' w.heap.size u U) ∧ Below w.heap.size w w' := by
  obtain ⟨hT1, hT6⟩ := isLts_of hT
  obtain ⟨hO1, hO7⟩ := isOds_of hO
  have HKR := Lib.hid (kept_run (ps := ps) hT1 hO1)
  have HCL := Lib.hid (cloneLt_any va T w ha (by omega))
  obtain ⟨ao, co, rfl⟩ := ho.len
  obtain ⟨ap, cp, rfl⟩ := hp.len
  have HO := Lib.hid ho.at
  have HP := Lib.hid (ints_at hp)
  have HOO := Lib.hid (allOd_get hO1)
  have HRT := Lib.hid (show leftT T os ps = if ps.length = os.length then runT T os ps ps.length else none from rfl)
  obtain ⟨aa, ca, rfl⟩ := ha.len
  clear ha ho hp hT1 hO1 hT hO
  obtain ⟨n, hln⟩ : ∃ n, n = T.length := ⟨_, rfl⟩
  obtain ⟨m, hlm⟩ : ∃ m, m = os.length := ⟨_, rfl⟩
  obtain ⟨l, hll⟩ : ∃ l, l = ps.length := ⟨_, rfl⟩
  rw [← hln] at hT6 HCL ⊢
  rw [← hlm] at HO HOO HRT hO7 HKR ⊢
  rw [← hll] at HP HRT hn ⊢
  have HLN := Lib.hid hln
  have HLL := Lib.hid hll
  clear hln hlm hll
  generalize leftT T os ps = LT at *
  by_cases hml : l = m
  rotate_left
  · have hne : ((l : Int) != (m : Int)) = true := by rw [bne_iff_ne]; omega
    have HE : Hid (LT = none) := Lib.hid (HRT.out.trans (if_neg hml))
    go_enter Try.func50, Try.ntmps50
    go_wp2_with fail
    go_returns
    exact ⟨_, ret_leftI (by rw [HE.out]; rfl), fun U e => by (rw [HE.out] at e; cases e), Below.refl _ _⟩
  · have hne : ((l : Int) != (m : Int)) = false := by simp [hml]
    have HE : Hid (LT = runT T os ps l) := Lib.hid (HRT.out.trans (if_pos hml))
    have HML := Lib.hid hml
    clear hml
    go_enter Try.func50, Try.ntmps50
    go_wp2_with fail
    refine HCL.out.mono ?_
    rintro e w1 ⟨x, rfl, own, hB⟩
    obtain ⟨wa, wc, rfl⟩ : ∃ wa wc, x = .slice wa n wc := by
      obtain ⟨wa, wc, e⟩ := own.rel.len
      rw [← HLN.out] at e
      exact ⟨wa, wc, e⟩
    have O1 := Lib.hid own
    have B1 := Lib.hid hB
    clear own hB
    go_wp2_with fail
    go_loopw [20] (fun i wr => ∃ (j : Nat) (U : List Lt), j ≤ l ∧ i = .int .i64 j ∧ Hid (runT T os ps j = some U) ∧ Hid (OwnLt wr w.heap.size (.slice wa n wc) U) ∧ Hid (Below w.heap.size w wr)) (fun i _ => l - (intOf i).toNat)
    case atStart => exact ⟨0, T, by omega, rfl, rfl, O1, B1⟩
    case round =>
      clear O1 B1
      obtain ⟨j, U, hj, rfl, hR, hO, hBl⟩ := hrel
      by_cases hlj : j < l
      · obtain ⟨pb, poff, rfl, hpb, hpc⟩ := HP.out (by omega)
        obtain ⟨ob, ooff, rfl, hob, hoc⟩ := HO.out (by have := HML.out; omega)
        have HK := Lib.hid (HKR.out j (by have := HML.out; omega) U hR.out)
        have hjm : j < m := by have := HML.out; omega
        have p0 := (hBl.out.cell (p := ⟨pb, _, none⟩) hpb).trans (hpc j hlj)
        have o0 := (hBl.out.cell (p := ⟨ob, _, none⟩) hob).trans (hoc j hjm).1
        have o1 := (hBl.out.cell (p := ⟨ob, _, none⟩) hob).trans (hoc j hjm).2
        have HRS := Lib.hid (runT_step hR.out)
        have HST : Hid (stepT U (ps.getD j 0) (atOd os j) = none → LT = none) := Lib.hid fun hs => by
          rw [HE.out, HLL.out]
          exact runT_stop hR.out (by rw [← HLL.out]; exact hlj) hs
        have hok := HOO.out j hjm
        have h0j : (0 : Int) ≤ (j : Int) := by omega
        have hjm' : (j : Int) < (m : Int) := by omega
        generalize ps.getD j 0 = x at *
        generalize atOd os j = o at *
        obtain ⟨so, og⟩ := o
        have hok' : (inB so 0 9 && inB og 1 5000) = true := hok
        rw [Bool.and_eq_true] at hok'
        have ks := inB_of hok'.1
        have kg := inB_of hok'.2
        simp only at o0 o1
        have HUL : Hid (n = U.length) := Lib.hid (by rw [HK.out.1, ← HLN.out])
        clear hok hok' hpc hoc
        by_cases hx : x = -1
        · subst hx
          have HR2 := Lib.hid (HRS.out.trans (stepT_skip U _))
          go_wp2_with fail
          go_roundw
          case rel => exact ⟨j + 1, U, by omega, by go_num, HR2, hO, hBl⟩
          case measure => simp [intOf]; omega
        · have hxn : (x != -1) = true := by rw [bne_iff_ne]; exact hx
          by_cases hy : 0 ≤ x ∧ x < (n : Int) ∧ canB (atLt U x.toNat) (so, og) = true
          · obtain ⟨q, rfl⟩ : ∃ q : Nat, x = q := ⟨x.toNat, by omega⟩
            have hqn : q < n := by omega
            have hyc : canB (atLt U q) (so, og) = true := by
              have := hy.2.2
              rwa [Int.toNat_natCast] at this
            have HV := Lib.hid (serve_yes wa n wc U q so og w.heap.size wr hO.out HUL.out (by omega) hqn hyc kg (HK.out.2 q).2)
            have HR2 := Lib.hid (HRS.out.trans (stepT_yes (by rw [← HUL.out]; exact hqn) hyc))
            obtain ⟨g, rfl, hgb, hgs⟩ := ownLt_at hO.out HUL.out (by omega)
            clear hy hyc
            generalize U.set q ((atLt U q).1, (atLt U q).2 - (so, og).2) = U2 at *
            go_wp2_with fail
            refine HV.out.mono ?_
            rintro e w2 ⟨rfl, own, hg⟩
            have O2 := Lib.hid own
            have B2 := Lib.hid (hBl.out.grown hg hBl.out.size (fun k hk => by have hk' : g = k := Option.some.inj hk; omega))
            clear own hg
            go_wp2_with fail
            go_roundw
            case rel => exact ⟨j + 1, _, by omega, by go_num, HR2, O2, B2⟩
            case measure => simp [intOf]; omega
          · have hno : x < 0 ∨ (n : Int) ≤ x ∨ canB (atLt U x.toNat) (so, og) = false := by
              by_cases h0 : x < 0
              · exact .inl h0
              · by_cases h1 : (n : Int) ≤ x
                · exact .inr (.inl h1)
                · refine .inr (.inr ?_)
                  cases hc : canB (atLt U x.toNat) (so, og) with
                  | false => rfl
                  | true => exact absurd ⟨by omega, by omega, hc⟩ hy
            have HV := Lib.hid (serve_no wa n wc U x so og w.heap.size wr hO.out HUL.out (by omega) hno)
            have HN : Hid (LT = none) := Lib.hid (HST.out (by
              rcases hno with h | h | h
              · exact stepT_out hx (.inl h)
              · exact stepT_out hx (.inr (by rw [← HUL.out]; exact h))
              · by_cases h0 : x < 0
                · exact stepT_out hx (.inl h0)
                · obtain ⟨q, rfl⟩ : ∃ q : Nat, x = q := ⟨x.toNat, by omega⟩
                  rw [Int.toNat_natCast] at h
                  exact stepT_not h))
            clear hno hy
            go_wp2_with fail
            refine HV.out.mono ?_
            rintro e w2 ⟨rfl, hB⟩
            have B2 := Lib.hid (hBl.out.trans (hB.mono hBl.out.size))
            clear hB
            go_wp2_with fail
            go_returns
            exact ⟨_, ret_leftI (by rw [HN.out]; rfl), fun U e => by (rw [HN.out] at e; cases e), B2.out⟩
      · have hjl : j = l := by omega
        subst hjl
        have HN := Lib.hid (HE.out.trans hR.out)
        go_wp2_with fail
        go_returns
        exact ⟨_, ret_leftI (by rw [HN.out]; rfl), fun V e => by (rw [HN.out] at e; cases e; exact hO.out), hBl.out⟩
end Go.Proofs.Ytklgklkfolbjcaa
