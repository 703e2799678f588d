/-
  No statement is proved here: what ReadWeb answers in the document's own text; condition: at most 1048576 bytes.
-/
import Derived.Test.YtljnhggblmdlnaaDoorReadSplit
namespace Go.Proofs.YtljnhggblmdlnaaDoor
open Go.ChangeShapes Go.WideShapes Go.ChangeAt Go.RowKit

theorem OwnS.texts {w : World} {B : Nat} {v : Value} {ws : List (List UInt8)} (h : OwnS w B v ws) (h0 : ws ≠ []) : ∃ g cap, v = .slice (some ⟨g, 0, none⟩) ws.length cap ∧ Texts w g ws := by
  have hr := h.row
  rcases h.2 with ⟨rfl, hn⟩ | ⟨g, cap, cur, rfl, hb, hg, _⟩
  · exact absurd (List.length_eq_zero_iff.1 hn) h0
  · exact ⟨g, cap, rfl, lt_of_block hg, fun j hj => (hr.cellAt j (by omega)).trans (strAt hj)⟩

set_option maxRecDepth 100000 in
set_option maxHeartbeats 4000000 in
theorem specRead_any (s : ByteArray) (w : World) (hs : s.size ≤ 1048576) :
    Calls Tryd.prog 10 #[.string s] w fun e w' => ∃ r, e = .returned (.tuple #[r, .int .i64 (readF s.data.toList).2]) ∧ Own w' w.heap.size r (readF s.data.toList).1 ∧ Below w.heap.size w w' := by
  obtain ⟨i0, hi, hz0, hz1, hz2⟩ := info_parts info64
  have HSP := Lib.hid (l01Split_any s w hs)
  have hsz : s.data.toList.length = s.size := by simp
  obtain ⟨l, hl⟩ : ∃ l, l = s.data.toList := ⟨_, rfl⟩
  rw [← hl] at HSP hsz ⊢
  have hsl := sp_length l
  have HNE := Lib.hid (sp_ne l)
  have HBAD := Lib.hid fun k hk h => readF_bad (l := l) (k := k) hk h
  have HYES := Lib.hid fun h h2 => readF_yes (l := l) h h2
  have HINV := Lib.hid fun h h2 => readF_inv (l := l) h h2
  have HFEW := Lib.hid fun h => few_words (l := l) numB_ne h
  obtain ⟨R, hR⟩ : ∃ R, R = readF l := ⟨_, rfl⟩
  rw [← hR] at HBAD HYES HINV ⊢
  obtain ⟨ws, hws⟩ : ∃ ws, ws = sp l := ⟨_, rfl⟩
  rw [← hws] at HSP hsl HNE HBAD HYES HINV HFEW
  have HST := Lib.hid (nums_step ws)
  have HNL := Lib.hid (nums_length ws)
  obtain ⟨n, hn⟩ : ∃ n, n = ws.length := ⟨_, rfl⟩
  have HN := Lib.hid hn
  rw [← hn] at hsl HST HNL HBAD HFEW
  have hn2 : n ≤ 1048577 := by omega
  have HF2 : Hid (ws.all numB = true → n ≤ 1048576) := fun h => by have := HFEW.out h; omega
  obtain ⟨B, hBe⟩ : ∃ B, B = w.heap.size := ⟨_, rfl⟩
  have HB := Lib.hid hBe
  rw [← hBe] at HSP ⊢
  clear hR hws hl hn hsl hsz HFEW hBe hs
  go_enter Tryd.func10, Tryd.ntmps10
  go_wp2_with fail
  refine HSP.out.mono ?_
  rintro e w1 ⟨r1, rfl, own, hB⟩
  obtain ⟨g, cap, rfl, ht⟩ := own.texts HNE.out
  rw [← HN.out]
  have E1 := Lib.hid hB
  have X1 := Lib.hid ht
  have hszB : B ≤ w1.heap.size := by have := hB.size; rw [HB.out]; exact this
  have hgC : g < w1.heap.size := ht.1
  obtain ⟨C, hC⟩ : ∃ C, C = w1.heap.size := ⟨_, rfl⟩
  have HCC := Lib.hid hC
  have S0 : Hid (Own (w1.alloc (.cells #[] 2)) C (.slice (some ⟨w1.heap.size, 0, none⟩) 0 0) ((nums ws).take 0)) := World.ownsRow_made w1 #[] 0 (by omega) (by decide) rfl
  have hBC : B ≤ C := by omega
  have hgC2 : g < C := by omega
  have S1 : Hid (Below B w (w1.alloc (.cells #[] 2))) := E1.out.alloc hszB _
  have S2 : Hid (Texts (w1.alloc (.cells #[] 2)) g ws) := X1.out.below ((Below.refl w1.heap.size w1).alloc (Nat.le_refl _) _)
  have S3 : Hid (C ≤ (w1.alloc (.cells #[] 2)).heap.size) := by
    show C ≤ _
    simp
    omega
  clear own hB ht HSP E1 X1 hC hgC
  go_wp2_with fail
  clear hszB
  go_loopw [5, 6] (fun v i wr => ∃ (k : Nat) (u : Value), k ≤ n ∧ i = .int .i64 k ∧ u = v ∧ Hid (∀ j, j < k → numB (ws.getD j []) = true) ∧ Hid (Own wr C v ((nums ws).take k)) ∧ Hid (Below B w wr) ∧ Hid (Texts wr g ws) ∧ Hid (C ≤ wr.heap.size)) (fun _ i _ => n - (intOf i).toNat)
  case atStart => exact ⟨0, _, Nat.zero_le _, rfl, rfl, fun j hj => absurd hj (Nat.not_lt_zero _), S0, S1, S2, S3⟩
  case round =>
    clear S0 S1 S2 S3
    obtain ⟨k, v, hk, rfl, rfl, hA, hO, hE, hT, hZ⟩ := hrel
    have hszB : B ≤ wr.heap.size := by have := hE.out.size; rw [HB.out]; exact this
    have hszC := hZ.out
    by_cases hlt : k < n
    · have hki : (k : Int) < (n : Int) := by omega
      have c1 := hT.out.2 k (by rw [← HN.out]; exact hlt)
      have hst := HST.out k hlt
      have hbad := HBAD.out k hlt
      have hnl := HNL.out
      obtain ⟨x, hx⟩ : ∃ x, x = ws.getD k [] := ⟨_, rfl⟩
      rw [← hx] at c1 hst hbad
      have HX := Lib.hid hx
      have HC := Lib.hid (l01Number_any ⟨x.toArray⟩ wr)
      rw [show (⟨x.toArray⟩ : ByteArray).data.toList = x from rfl] at HC
      clear hx
      obtain ⟨q, hq⟩ : ∃ q, q = numN x := ⟨_, rfl⟩
      rw [← hq] at HC hst
      clear hq
      have hlen : ((nums ws).take k).length = k := by rw [List.length_take, hnl]; omega
      cases hb : numB x with
      | false =>
        have hR := hbad hb
        rw [hb] at HC
        have HR := Lib.hid hR
        clear hR hbad hb hst hnl hlen hA hO hT
        go_wp2_with fail
        refine HC.out.mono ?_
        rintro e w2 ⟨rfl, rfl⟩
        go_wp2_with fail
        go_returns
        rw [HR.out]
        exact ⟨_, rfl, World.ownsRow_made wr #[] 0 hszB (by decide) rfl, hE.out.alloc hszB _⟩
      | true =>
        rw [hb] at HC
        have HB1 := Lib.hid hb
        have HST2 := Lib.hid hst
        clear hbad hb hst hnl
        go_wp2_with fail
        refine HC.out.mono ?_
        rintro e w2 ⟨rfl, rfl⟩
        go_wp2_with (first
          | (at_builtin; refine wpList_append_lies _ rfl _ _ _ rfl C 2 i0 (.int .i64 0) 1 8 Tryd.underlying22 hi hz0 hz1 hz2 rfl (by omega) v ((nums ws).take k).length _ rfl (hO.out.row.alloc _) ⟨wr.heap.size, 0, none⟩ 1 1 _ rfl rfl (World.news_of_block (heap_alloc_new wr _)) (int_one _) (by omega) (by unfold maxLen; omega) (by omega) (by simp; omega) (wr.heap.size + 1) (by simp) ?_; intro gg cap2 w3 hown3 hgrow hat hlt2)
          | fail)
        have hne := fun j hj => (hO.out.row.lt j hj).1
        have hB3 : Below wr.heap.size wr w3 ∨ True := .inr trivial
        have hE2 := hE.out.grown (grown_alloc2 hgrow) hszB (fun j hj => Nat.le_trans hBC (hne j hj))
        have HO2 : Hid (Own w3 C (.slice (some ⟨gg, 0, none⟩) (((nums ws).take k).length + 1) cap2) ((nums ws).take (k + 1))) := by
          show World.ownsRow _ _ _ _ _ _ _
          rw [HST2.out, List.map_append, List.length_append, List.map_singleton]
          exact hown3
        have HA2 : Hid (∀ j, j < k + 1 → numB (ws.getD j []) = true) := fun j hj => by
          by_cases e : j = k
          · rw [e, ← HX.out]
            exact HB1.out
          · exact hA.out j (by omega)
        have HT2 : Hid (Texts w3 g ws) := hT.out.grown (grown_alloc2 hgrow) (fun e => by have := hne g e.symm; omega)
        rw [hlen] at HO2
        have HZ2 : Hid (C ≤ w3.heap.size) := Nat.le_trans hszC (grown_alloc2 hgrow).size
        clear hgrow hown3 hat hlt2 hO hE hT hA hne hB3 hZ hlen HST2 HB1
        go_wp2_with fail
        go_roundw
        case rel => exact ⟨k + 1, _, by omega, by go_num, rfl, HA2, HO2, hE2, HT2, HZ2⟩
        case measure => simp [intOf]; omega
    · have hkn : k = n := by omega
      subst hkn
      have hall := all_of (ws := ws) (p := numB) (fun j hj => hA.out j (by rw [HN.out]; exact hj))
      have hO2 := hO.out
      rw [List.take_of_length_le (by rw [HNL.out]; exact Nat.le_refl _)] at hO2
      have hn1 := HF2.out hall
      have HK := Lib.hid (l02Ok_any v (nums ws) wr hO2.ints (by rw [HNL.out]; exact hn1))
      have HOO := Lib.hid hO2
      cases hok : okW (nums ws) with
      | false =>
        rw [hok] at HK
        have hR := HINV.out hall hok
        have HR := Lib.hid hR
        clear hR hok hall hO2 hO hA hT hZ
        go_wp2_with fail
        refine HK.out.mono ?_
        rintro e w2 ⟨rfl, rfl⟩
        go_wp2_with fail
        go_returns
        rw [HR.out]
        exact ⟨_, rfl, World.ownsRow_made wr #[] 0 hszB (by decide) rfl, hE.out.alloc hszB _⟩
      | true =>
        rw [hok] at HK
        have hR := HYES.out hall hok
        have HR := Lib.hid hR
        clear hR hok hall hO2 hO hA hT hZ
        go_wp2_with fail
        refine HK.out.mono ?_
        rintro e w2 ⟨rfl, rfl⟩
        go_wp2_with fail
        go_returns
        rw [HR.out]
        exact ⟨_, rfl, HOO.out.mono hBC, hE.out⟩
end Go.Proofs.YtljnhggblmdlnaaDoor
