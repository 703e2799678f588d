/-
  No statement is proved here: places behind each move as the document's own text tells them; condition: valid places and moves.
-/
import Derived.Test.YtphinokacggnfaaAtM
import Derived.Test.YtphinokacggnfaaBring
import Derived.Laws.OwnMore
import Derived.Deep.AppendLies
namespace Go.Proofs.Ytphinokacggnfaa
open Go.ChangeShapes Go.WideShapes Go.ChangeAt Go.RowKit

theorem below_of_ownPl {B : Nat} {w w' : World} {v : Value} {L : List (Nat → Int)} (h : OwnPl w B v L) (hg : w.grownBy w' v.ownBlock) (hB : B ≤ w.heap.size) : Below B w w' :=
  (Below.refl B w).grown hg hB (fun k hk => (h.lt k hk).1)
theorem grown_alP {w w' : World} {o : Obj} {row : Option Nat} (h : (w.alloc o).grownBy w' row) : w.grownBy w' row := grown_tr (World.grownBy_alloc w o row) h
theorem grown_drewP {w w' : World} {row : Option Nat} (h : w.grownBy w' row) : w.grownBy w'.drew row := ⟨h.os, h.tape, h.output, h.size, h.block⟩
theorem grownBy_setP (W : World) (b a : Nat) (v : Value) : W.grownBy (W.setCell ⟨b, a, none⟩ v) (some b) :=
  ⟨rfl, rfl, rfl, by simp, fun i _ hne => Below.heap_setCell _ _ _ i (fun e => hne (by rw [e]))⟩
theorem own_apart {W : World} {B : Nat} {v : Value} {L : List (Nat → Int)} (h : OwnPl W (B + 1) v L) : v.ownBlock = none ∨ v.ownBlock ≠ some B := by
  cases e : v.ownBlock with
  | none => exact .inl rfl
  | some k =>
    have := (h.lt k e).1
    exact .inr fun e2 => by have := Option.some.inj e2; omega
theorem own_lower {W : World} {B : Nat} {v : Value} {L : List (Nat → Int)} (h : OwnPl W (B + 1) v L) : OwnPl W B v L :=
  ⟨h.1, h.2.imp id fun ⟨g, cap, cur, a, b, c⟩ => ⟨g, cap, cur, a, by omega, c⟩⟩
def wrongI : Option Nat → Int
  | some k => (k : Int)
  | none => -1
theorem ret_at {u : Value} {a b : Int} (h : a = b) : Ending.returned (.tuple #[u, .int .i64 a]) = .returned (.tuple #[u, .int .i64 b]) := by rw [h]
theorem cellsPl_one (f : Nat → Int) : cellsPl [f] = [.int .i32 (f 0), .int .i32 (f 1), .int .i32 (f 2), .int .i32 (f 3), .int .i32 (f 4)] := rfl

set_option maxRecDepth 100000 in
set_option maxHeartbeats 16000000 in
theorem l07At_any (f : Nat → Int) (v : Value) (ms : List Mv) (w : World) (h : Mvs w v ms) (hm : isMvs ms = true) (hf : Within f 1000000) :
    Calls Try.prog 48 #[pval f, v] w fun e w' => ∃ u L, e = .returned (.tuple #[u, .int .i64 (wrongI (wrongAt f ms))]) ∧ OwnPl w' w.heap.size u L ∧ (wrongAt f ms = none → L = behind f ms ms.length) ∧ Below w.heap.size w w' := by
  obtain ⟨i0, hi, hz0, hz1, hz2⟩ := info_parts infoPl
  obtain ⟨hall, h60⟩ := isMvs_of hm
  have HIN := Lib.hid (bringTo_in (c := 1000000) (by omega) hf hall)
  have HOK := Lib.hid (allMv_get hall)
  have HWS := Lib.hid fun k (hk : k < ms.length) => @wrongAt_some f ms k hk
  have HWN := Lib.hid (@wrongAt_none f ms)
  obtain ⟨a, cap, rfl⟩ := h.len
  have HP := Lib.hid h.at
  clear h hm hf hall
  obtain ⟨n, hln⟩ : ∃ n, n = ms.length := ⟨_, rfl⟩
  rw [← hln] at HP HIN HOK HWS HWN h60 ⊢
  clear hln
  obtain ⟨W0, hW0⟩ : ∃ W0, W0 = (w.alloc (.cells #[.int .i32 (f 0), .int .i32 (f 1), .int .i32 (f 2), .int .i32 (f 3), .int .i32 (f 4)] 31)).alloc (.cells #[] 31) := ⟨_, rfl⟩
  have A0 : Hid (Box5 W0 w.heap.size (bringTo f ms 0)) := Lib.hid (by
    rw [hW0]
    exact ((Box5.made w _ f).below ((Below.refl _ _).alloc (Nat.le_refl _) _)))
  have B0 : Hid (Below w.heap.size w W0) := Lib.hid (by rw [hW0]; go_grown)
  have O0 : Hid (OwnPl W0 (w.heap.size + 1) (.slice (some ⟨w.heap.size + 1, 0, none⟩) 0 0) (behind f ms 0)) := Lib.hid (by
    have := World.ownsRow_made (base := w.heap.size + 1) (e := 31) (size := 5) (w.alloc (.cells #[.int .i32 (f 0), .int .i32 (f 1), .int .i32 (f 2), .int .i32 (f 3), .int .i32 (f 4)] 31)) #[] 0 (by simp) (by decide) rfl
    rw [hW0]
    simpa [OwnPl, behind, cellsPl] using this)
  have HW0 := Lib.hid hW0
  clear hW0
  generalize wrongAt f ms = WA at *
  go_enter Try.func48, Try.ntmps48
  go_wp2_with fail
  rw [← HW0.out]
  go_loopw [6, 7] (fun u i wr => ∃ (k : Nat) (x : Value), k ≤ n ∧ i = .int .i64 k ∧ x = u ∧ Hid (fineTo f ms k) ∧ Hid (Box5 wr w.heap.size (bringTo f ms k)) ∧ Hid (OwnPl wr (w.heap.size + 1) x (behind f ms k)) ∧ Hid (Below w.heap.size w wr)) (fun _ i _ => n - (intOf i).toNat)
  case atStart => exact ⟨0, _, Nat.zero_le _, rfl, rfl, Lib.hid (fineTo_zero f ms), A0, O0, B0⟩
  case round =>
    clear O0 B0 A0
    obtain ⟨k, x, hk, rfl, rfl, hF, h1, hO, hB⟩ := hrel
    obtain ⟨wa, wc, rfl⟩ : ∃ wa wc, x = .slice wa (k : Nat) wc := by
      obtain ⟨wa, wc, e⟩ := hO.out.rel.len
      rw [behind_length] at e
      exact ⟨wa, wc, e⟩
    by_cases hlt : k < n
    · have hki : (k : Int) < (n : Int) := by omega
      obtain ⟨b, off, rfl, hb, hc⟩ := HP.out (by omega)
      have hck := hc k hlt
      have hok := HOK.out k hlt
      have hin := HIN.out k hk
      have hin1 := HIN.out (k + 1) hlt
      have HS := Lib.hid (show bringTo f ms (k + 1) = bringF (bringTo f ms k) (atMv ms k) from rfl)
      have HBS := Lib.hid (behind_succ f ms k)
      have HFS := Lib.hid (fun h1 => fineTo_succ hF.out h1)
      have HWK := Lib.hid (fun h1 => HWS.out k hlt hF.out h1)
      have hz := hB.out.size
      generalize atMv ms k = y at hck hok HS
      obtain ⟨y0, y1, g⟩ := y
      obtain ⟨p, q, rfl, rfl, hp3, hq1, hq5, hpq, hg0, hg1⟩ := okMv_parts hok
      rw [bringF_eq hpq] at HS
      generalize hFe : bringTo f ms (k + 1) = F at *
      have HFE := Lib.hid hFe
      clear hFe
      generalize bringTo f ms k = fk at h1 HS hin
      have d0 := (hB.out.cell (p := ⟨b, _, none⟩) hb).trans hck.1
      have d1 := (hB.out.cell (p := ⟨b, _, none⟩) hb).trans hck.2.1
      have d2 := (hB.out.cell (p := ⟨b, _, none⟩) hb).trans hck.2.2
      have p0 := h1.out.1 p (by omega)
      have ip := hin p
      have iq := hin q
      have fz := h1.out.2
      have P1 := (h1.out.put p (by omega) (fk p - g)).drew
      have q0' := P1.1 q (by omega)
      rw [putP_ne hpq] at q0'
      have PB := (hB.out.setCell (p := ⟨w.heap.size, p, none⟩) (Nat.le_refl _) (.int .i32 (fk p - g))).drew
      have PO : OwnPl (wr.setCell ⟨w.heap.size, p, none⟩ (.int .i32 (fk p - g))).drew (w.heap.size + 1) (.slice wa k wc) (behind f ms k) := hO.out.kept (row := some w.heap.size) (grown_drewP (grownBy_setP wr w.heap.size p _)) (own_apart hO.out)
      obtain ⟨W1, hW1⟩ : ∃ W1, W1 = (wr.setCell ⟨w.heap.size, p, none⟩ (.int .i32 (fk p - g))).drew := ⟨_, rfl⟩
      rw [← hW1] at P1 q0' PB PO
      have t0 := (PB.cell (p := ⟨b, _, none⟩) hb).trans hck.1
      have t1 := (PB.cell (p := ⟨b, _, none⟩) hb).trans hck.2.1
      have t2 := (PB.cell (p := ⟨b, _, none⟩) hb).trans hck.2.2
      have fz1 := P1.2
      have HW1 := Lib.hid hW1
      have Q1 := (P1.put q (by omega) (fk q + g)).drew
      have QB := (PB.setCell (p := ⟨w.heap.size, q, none⟩) (Nat.le_refl _) (.int .i32 (fk q + g))).drew
      have QO : OwnPl (W1.setCell ⟨w.heap.size, q, none⟩ (.int .i32 (fk q + g))).drew (w.heap.size + 1) (.slice wa k wc) (behind f ms k) := PO.kept (row := some w.heap.size) (grown_drewP (grownBy_setP W1 w.heap.size q _)) (own_apart PO)
      rw [← HS.out] at Q1
      obtain ⟨W2, hW2⟩ : ∃ W2, W2 = (W1.setCell ⟨w.heap.size, q, none⟩ (.int .i32 (fk q + g))).drew := ⟨_, rfl⟩
      rw [← hW2] at Q1 QB QO
      have HW2 := Lib.hid hW2
      have HQ1 := Lib.hid Q1
      have HQB := Lib.hid QB
      have HQO := Lib.hid QO
      have HV := Lib.hid (l07Places_any w.heap.size F W2 Q1.1 (fun j _ => by have := hin1 j; omega))
      have R1 : Hid (W2.ownsRow (w.heap.size + 1) 31 5 (.slice wa (k : Nat) wc) k (cellsPl (behind f ms k))) := Lib.hid (by
        have h := QO.row
        rw [behind_length] at h
        exact h)
      have HZ : Hid (w.heap.size + 1 ≤ W2.heap.size) := Lib.hid (by have := Q1.lt; omega)
      clear P1 PB PO hW1 HS Q1 QB QO hW2 hin hin1 hck hok hc h1 hB hF hO HWS HIN HOK
      generalize fk p = fp at *
      generalize fk q = fq at *
      go_wp2_with fail
      go_region
      rw [← HW1.out]
      clear p0 d0 d1 d2 fz
      go_wp2_with fail
      go_region
      rw [← HW2.out]
      clear q0' t0 t1 t2 fz1
      cases hr : okP F with
      | false =>
        have HN := Lib.hid (HWK.out hr)
        rw [hr] at HV
        clear hr HFS
        go_wp2_with fail
        refine HV.out.mono ?_
        rintro e w3 ⟨rfl, rfl⟩
        go_wp2_with fail
        go_returns
        refine ⟨_, _, ret_at (by rw [HN.out]; rfl), own_lower HQO.out, fun e => by (rw [HN.out] at e; cases e), HQB.out⟩
      | true =>
        have HF2 := Lib.hid (HFS.out hr)
        rw [hr] at HV
        clear hr HWK
        have c0 := HQ1.out.1 0 (by omega)
        have c1 := HQ1.out.1 1 (by omega)
        have c2 := HQ1.out.1 2 (by omega)
        have c3 := HQ1.out.1 3 (by omega)
        have c4 := HQ1.out.1 4 (by omega)
        go_wp2_with fail
        refine HV.out.mono ?_
        rintro e w3 ⟨rfl, rfl⟩
        go_wp2_with (first
          | (at_builtin; refine wpList_append_lies _ rfl _ _ _ rfl (w.heap.size + 1) 31 i0 (.agg #[.int .i32 0, .int .i32 0, .int .i32 0, .int .i32 0, .int .i32 0]) 5 20 Try.underlying42 hi hz0 hz1 hz2 rfl (by omega) (.slice wa (k : Nat) wc) k _ rfl (R1.out.alloc _) ⟨W2.heap.size, 0, none⟩ 1 1 [.int .i32 (F 0), .int .i32 (F 1), .int .i32 (F 2), .int .i32 (F 3), .int .i32 (F 4)] rfl rfl (World.news_of_block (heap_alloc_new W2 _)) (vals_one F) (by omega) (by unfold maxLen; omega) (by omega) (by simp; have := HZ.out; omega) (W2.heap.size + 1) (by simp) ?_; intro gg gcap w4 hown hgrow hat hlt2)
          | fail)
        have hg := grown_alP hgrow
        have E1 := Lib.hid (HQ1.out.grown hg (by intro e; rcases own_apart HQO.out with h | h <;> simp_all))
        have EB := Lib.hid (HQB.out.grown hg HQB.out.size (fun k hk => by have := (HQO.out.lt k hk).1; omega))
        have EO : Hid (OwnPl w4 (w.heap.size + 1) (.slice (some ⟨gg, 0, none⟩) (k + 1 : Nat) gcap) (behind f ms (k + 1))) := Lib.hid (by
          show World.ownsRow _ _ _ _ _ _ _
          rw [behind_length, HBS.out, cellsPl_app, cellsPl_one]
          exact hown)
        rw [← HFE.out] at E1
        clear hown hgrow hat hlt2 hg HFE HBS
        go_roundw
        case rel => exact ⟨k + 1, _, by omega, by go_num, rfl, HF2, E1, EO, EB⟩
        case measure => simp [intOf]; omega
    · have hkn : k = n := by omega
      subst hkn
      have HN := Lib.hid (HWN.out hF.out)
      go_wp2_with fail
      go_returns
      exact ⟨_, _, ret_at (by rw [HN.out]; rfl), own_lower hO.out, fun _ => rfl, hB.out⟩
end Go.Proofs.Ytphinokacggnfaa
