/-
  No statement is proved here: places behind each move, up to the first that cannot be, in the program; condition: valid places and moves.
-/
import Derived.Test.YtphinokacggnfaaAtS
import Derived.Test.YtphinokacggnfaaTry
namespace Go.Proofs.Ytphinokacggnfaa
open Go.ChangeShapes Go.WideShapes Go.ChangeAt Go.RowKit

theorem wrongAt_lt {f : Nat → Int} {ms : List Mv} {k : Nat} (h : wrongAt f ms = some k) : k < ms.length := by
  unfold wrongAt at h
  rw [List.find?_range_eq_some] at h
  simpa using h.2.1
def madeN (f : Nat → Int) (ms : List Mv) : Nat := (wrongAt f ms).getD ms.length
theorem madeN_some {f : Nat → Int} {ms : List Mv} {k : Nat} (h : wrongAt f ms = some k) : madeN f ms = k := by rw [madeN, h]; rfl
theorem madeN_none {f : Nat → Int} {ms : List Mv} (h : wrongAt f ms = none) : madeN f ms = ms.length := by rw [madeN, h]; rfl
set_option maxRecDepth 100000 in
set_option maxHeartbeats 16000000 in
theorem follow_any (f : Nat → Int) (v : Value) (ms : List Mv) (w : World) (h : Mvs w v ms) (hm : isMvs ms = true) (hf : Within f 1000000) :
    Calls Try.prog 50 #[pval f, v] w fun e w' => ∃ u, e = .returned u ∧ OwnPl w' w.heap.size u (behind f ms (madeN f ms)) ∧ Below w.heap.size w w' := by
  obtain ⟨i0, hi, hz0, hz1, hz2⟩ := info_parts infoPl
  obtain ⟨hall, h60⟩ := isMvs_of hm
  have HIN := Lib.hid (bringTo_in (c := 1000000) (by omega) hf hall)
  have HOK := Lib.hid (allMv_get hall)
  have HWS := Lib.hid fun k (hk : k < ms.length) h h1 => madeN_some (@wrongAt_some f ms k hk h h1)
  have HWN := Lib.hid fun h => madeN_none (@wrongAt_none f ms h)
  obtain ⟨a, cap, rfl⟩ := h.len
  have HP := Lib.hid h.at
  clear h hm hf hall
  obtain ⟨n, hln⟩ : ∃ n, n = ms.length := ⟨_, rfl⟩
  rw [← hln] at HP HIN HOK HWS HWN h60 ⊢
  clear hln
  obtain ⟨W0, hW0⟩ : ∃ W0, W0 = w.alloc (.cells #[.int .i32 (f 0), .int .i32 (f 1), .int .i32 (f 2), .int .i32 (f 3), .int .i32 (f 4)] 31) := ⟨_, rfl⟩
  have A0 : Hid (Box5 W0 w.heap.size (bringTo f ms 0)) := Lib.hid (by
    rw [hW0]
    exact Box5.made w _ f)
  have B0 : Hid (Below w.heap.size w W0) := Lib.hid (by rw [hW0]; go_grown)
  have O0 : Hid (OwnPl W0 (w.heap.size + 1) (.slice none 0 0) (behind f ms 0)) := Lib.hid (by simpa [OwnPl, behind, cellsPl] using World.ownsRow_nil _ _ _ _)
  have HW0 := Lib.hid hW0
  clear hW0
  generalize madeN f ms = N at *
  go_enter Try.func50, Try.ntmps50
  go_wp2_with fail
  rw [← HW0.out]
  go_loopw [5, 10] (fun u i wr => ∃ (k : Nat) (x : Value), k ≤ n ∧ i = .int .i64 k ∧ x = u ∧ Hid (fineTo f ms k) ∧ Hid (Box5 wr w.heap.size (bringTo f ms k)) ∧ Hid (OwnPl wr (w.heap.size + 1) x (behind f ms k)) ∧ Hid (Below w.heap.size w wr)) (fun _ i _ => n - (intOf i).toNat)
  case atStart => exact ⟨0, _, Nat.zero_le _, rfl, rfl, Lib.hid (fineTo_zero f ms), A0, O0, B0⟩
  case round =>
    clear O0 B0 A0
    obtain ⟨k, x, hk, rfl, rfl, hF, h1, hO, hB⟩ := hrel
    obtain ⟨wa, wc, rfl⟩ : ∃ wa wc, x = .slice wa (k : Nat) wc := by
      obtain ⟨wa, wc, e⟩ := hO.out.rel.len
      rw [behind_length] at e
      exact ⟨wa, wc, e⟩
    by_cases hlt : k < n
    · obtain ⟨b, off, rfl, hb, hc⟩ := HP.out (by omega)
      have hck := hc k hlt
      have hok := HOK.out k hlt
      have hin := HIN.out k hk
      have HS := Lib.hid (show bringTo f ms (k + 1) = bringF (bringTo f ms k) (atMv ms k) from rfl)
      have HBS := Lib.hid (behind_succ f ms k)
      have HFS := Lib.hid (fun h1 => fineTo_succ hF.out h1)
      have HWK := Lib.hid (fun h1 => HWS.out k hlt hF.out h1)
      generalize atMv ms k = y at hck hok HS
      obtain ⟨y0, y1, g⟩ := y
      obtain ⟨p, q, rfl, rfl, hp3, hq1, hq5, hpq, hg0, hg1⟩ := okMv_parts hok
      generalize hFe : bringTo f ms (k + 1) = F at *
      have HFE := Lib.hid hFe
      clear hFe
      generalize bringTo f ms k = fk at h1 HS hin
      have d0 := (hB.out.cell (p := ⟨b, _, none⟩) hb).trans hck.1
      have d1 := (hB.out.cell (p := ⟨b, _, none⟩) hb).trans hck.2.1
      have d2 := (hB.out.cell (p := ⟨b, _, none⟩) hb).trans hck.2.2
      obtain ⟨W1, hW1⟩ : ∃ W1, W1 = wr.alloc (.cells #[.int .i8 p, .int .i8 q, .int .i16 g] 53) := ⟨_, rfl⟩
      have al : Below wr.heap.size wr W1 := by rw [hW1]; exact (Below.refl wr.heap.size wr).alloc (Nat.le_refl _) _
      have HT := Lib.hid (try_any w.heap.size fk p q g W1 (h1.out.below al) (by omega) hq5 hpq (by omega) hg1 (hin.mono (by omega)))
      rw [← HS.out] at HT
      have O1 := Lib.hid (hO.out.below al)
      have B1 := Lib.hid (hB.out.trans (al.mono hB.out.size))
      have HW1 := Lib.hid hW1
      clear al hW1 hin hck hok hc h1 hB hF hO HWS HIN HOK HS
      cases hr : okP F with
      | false =>
        have HN := Lib.hid (HWK.out hr)
        rw [hr] at HT
        clear hr HFS
        go_wp2_with fail
        rw [← HW1.out]
        refine HT.out.mono ?_
        rintro e w3 ⟨rfl, _, hg⟩
        have O2 := Lib.hid (own_lower (O1.out.kept hg (own_apart O1.out)))
        have B2 := Lib.hid (B1.out.grown hg B1.out.size (fun j hj => by have := Option.some.inj hj; omega))
        clear hg
        go_wp2_with fail
        go_ret
        rw [HN.out]
        exact ⟨_, rfl, O2.out, B2.out⟩
      | true =>
        have HF2 := Lib.hid (HFS.out hr)
        rw [hr] at HT
        clear hr HWK
        go_wp2_with fail
        rw [← HW1.out]
        refine HT.out.mono ?_
        rintro e w3 ⟨rfl, hx, hg⟩
        have hx' : Box5 w3 w.heap.size F := by simpa using hx
        have HX := Lib.hid hx'
        have O2 := Lib.hid (O1.out.kept hg (own_apart O1.out))
        have B2 := Lib.hid (B1.out.grown hg B1.out.size (fun j hj => by have := Option.some.inj hj; omega))
        have c0 := hx'.1 0 (by omega)
        have c1 := hx'.1 1 (by omega)
        have c2 := hx'.1 2 (by omega)
        have c3 := hx'.1 3 (by omega)
        have c4 := hx'.1 4 (by omega)
        have R1 : Hid (w3.ownsRow (w.heap.size + 1) 31 5 (.slice wa (k : Nat) wc) k (cellsPl (behind f ms k))) := Lib.hid (by
          have h := O2.out.row
          rw [behind_length] at h
          exact h)
        have HZ : Hid (w.heap.size + 1 ≤ w3.heap.size) := Lib.hid (by have := hx'.lt; omega)
        clear hg hx hx'
        go_wp2_with (first
          | (at_builtin; refine wpList_append_lies _ rfl _ _ _ rfl (w.heap.size + 1) 31 i0 (.agg #[.int .i32 0, .int .i32 0, .int .i32 0, .int .i32 0, .int .i32 0]) 5 20 Try.underlying42 hi hz0 hz1 hz2 rfl (by omega) (.slice wa (k : Nat) wc) k _ rfl (R1.out.alloc _) ⟨w3.heap.size, 0, none⟩ 1 1 [.int .i32 (F 0), .int .i32 (F 1), .int .i32 (F 2), .int .i32 (F 3), .int .i32 (F 4)] rfl rfl (World.news_of_block (heap_alloc_new w3 _)) (vals_one F) (by omega) (by unfold maxLen; omega) (by omega) (by simp; have := HZ.out; omega) (w3.heap.size + 1) (by simp) ?_; intro gg gcap w4 hown hgrow hat hlt2)
          | fail)
        have hg := grown_alP hgrow
        have E1 := Lib.hid (HX.out.grown hg (by intro e; rcases own_apart O2.out with h | h <;> simp_all))
        have EB := Lib.hid (B2.out.grown hg B2.out.size (fun k hk => by have := (O2.out.lt k hk).1; omega))
        have EO : Hid (OwnPl w4 (w.heap.size + 1) (.slice (some ⟨gg, 0, none⟩) (k + 1 : Nat) gcap) (behind f ms (k + 1))) := Lib.hid (by
          show World.ownsRow _ _ _ _ _ _ _
          rw [behind_length, HBS.out, cellsPl_app, cellsPl_one]
          exact hown)
        rw [← HFE.out] at E1
        clear hown hgrow hat hlt2 hg HFE HBS c0 c1 c2 c3 c4
        go_wp2_with fail
        go_roundw
        case rel => exact ⟨k + 1, _, by omega, by go_num, rfl, HF2, E1, EO, EB⟩
        case measure => simp [intOf]; omega
    · have hkn : k = n := by omega
      subst hkn
      have HN := Lib.hid (HWN.out hF.out)
      go_wp2_with fail
      go_ret
      rw [HN.out]
      exact ⟨_, rfl, own_lower hO.out, hB.out⟩
end Go.Proofs.Ytphinokacggnfaa
