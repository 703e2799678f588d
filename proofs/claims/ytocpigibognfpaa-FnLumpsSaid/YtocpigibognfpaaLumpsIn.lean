/-
  No statement is proved here: what LumpsIn answers, in the program and in the document's own text; condition: at most 1048576 stripes.
-/
import Derived.Test.YtocpigibognfpaaLumps
namespace Go.Proofs.Ytocpigibognfpaa
open Go.ChangeShapes Go.WideShapes Go.ChangeAt Go.RowKit

/-- What LumpsIn answers. -/
def lumF (zs : List Int) (t : Int) : List Int × Int := if okW zs = true then (if inB t 1 12 = true then (lumpsTo zs t zs.length, 0) else ([], 2)) else ([], 1)
theorem lumF_no {zs : List Int} {t : Int} (h : okW zs = false) : lumF zs t = ([], 1) := by simp [lumF, h]
theorem lumF_out {zs : List Int} {t : Int} (h : okW zs = true) (h2 : inB t 1 12 = false) : lumF zs t = ([], 2) := by simp [lumF, h, h2]
theorem lumF_yes {zs : List Int} {t : Int} (h : okW zs = true) (h2 : inB t 1 12 = true) : lumF zs t = (lumpsTo zs t zs.length, 0) := by simp [lumF, h, h2]
theorem lumF_len (zs : List Int) (t : Int) : (lumF zs t).1.length ≤ 2097152 := by
  cases h : okW zs with
  | false => rw [lumF_no h]; simp
  | true =>
    cases h2 : inB t 1 12 with
    | false => rw [lumF_out h h2]; simp
    | true =>
      rw [lumF_yes h h2]
      have := okW_len h
      have := lumpsTo_length zs t zs.length
      show (lumpsTo zs t zs.length).length ≤ _
      omega

theorem Own.belowRow {w w' : World} {base n : Nat} {e : TypeId} {v : Value} {xs : List Value} (h : w.ownsRow base e 1 v n xs) (hB : Below w.heap.size w w') : w'.ownsRow base e 1 v n xs := by
  refine ⟨h.1, ?_⟩
  rcases h.2 with h2 | ⟨g, cap, cur, hv, hg, hh, r⟩
  · exact .inl h2
  · exact .inr ⟨g, cap, cur, hv, hg, by rw [hB.block g (lt_of_block hh)]; exact hh, r⟩
theorem l02Times_any (t : Int) (w : World) : Calls Try.prog 31 #[.int .i64 t] w fun e w' => e = .returned (.bool (inB t 1 12)) ∧ w = w' := by
  have H := Lib.hid (in_any t 1 12 w)
  go_enter Try.func31, Try.ntmps31
  go_wp2_with fail
  refine H.out.mono ?_
  rintro e w' ⟨rfl, rfl⟩
  go_wp2_with fail
  go_ret
  exact ⟨rfl, rfl⟩

set_option maxRecDepth 100000 in
set_option maxHeartbeats 2000000 in
theorem specLumps_any (v : Value) (zs : List Int) (t : Int) (w : World) (h : Ints w v zs) (hn : zs.length ≤ 1048576) :
    Calls Try.prog 10 #[v, .int .i64 t] w fun e w' => ∃ r, e = .returned (.tuple #[r, .int .i64 (lumF zs t).2]) ∧ Own w' w.heap.size r (lumF zs t).1 ∧ Below w.heap.size w w' := by
  have hin := l02Ok_any v zs w h hn
  cases hok : okW zs with
  | false =>
    rw [hok] at hin
    have HI := Lib.hid hin
    rw [lumF_no hok]
    clear hin hok h
    go_enter Try.func10, Try.ntmps10
    go_wp2_with fail
    refine HI.out.mono ?_
    rintro e w' ⟨rfl, rfl⟩
    go_wp2_with fail
    go_returns
    exact ⟨_, rfl, World.ownsRow_made w #[] 0 (Nat.le_refl _) (by decide) rfl, (Below.refl _ _).alloc (Nat.le_refl _) _⟩
  | true =>
    rw [hok] at hin
    have HI := Lib.hid hin
    have htm := l02Times_any t w
    cases h2 : inB t 1 12 with
    | false =>
      rw [h2] at htm
      have HT := Lib.hid htm
      rw [lumF_out hok h2]
      clear hin hok h htm h2
      go_enter Try.func10, Try.ntmps10
      go_wp2_with fail
      refine HI.out.mono ?_
      rintro e w' ⟨rfl, rfl⟩
      go_wp2_with fail
      refine HT.out.mono ?_
      rintro e w' ⟨rfl, rfl⟩
      go_wp2_with fail
      go_returns
      exact ⟨_, rfl, World.ownsRow_made w #[] 0 (Nat.le_refl _) (by decide) rfl, (Below.refl _ _).alloc (Nat.le_refl _) _⟩
    | true =>
      rw [h2] at htm
      have HT := Lib.hid htm
      have HL := Lib.hid (l02Lumps_any v zs t w h hok (inB_of h2).1 (inB_of h2).2)
      rw [lumF_yes hok h2]
      clear hin hok h htm h2
      go_enter Try.func10, Try.ntmps10
      go_wp2_with fail
      refine HI.out.mono ?_
      rintro e w' ⟨rfl, rfl⟩
      go_wp2_with fail
      refine HT.out.mono ?_
      rintro e w' ⟨rfl, rfl⟩
      go_wp2_with fail
      refine HL.out.mono ?_
      rintro e w' ⟨r, rfl, own, hB⟩
      go_wp2_with fail
      go_returns
      exact ⟨_, rfl, own, hB⟩

set_option maxRecDepth 100000 in
set_option maxHeartbeats 2000000 in
theorem implLumps_any (v : Value) (zs : List Int) (t : Int) (w : World) (h : Ints w v zs) (hn : zs.length ≤ 1048576) :
    Calls Try.prog 9 #[v, .int .i64 t] w fun e w' => ∃ r, e = .returned (.tuple #[r, .int .i64 (lumF zs t).2]) ∧ Own w' w.heap.size r (lumF zs t).1 ∧ Below w.heap.size w w' := by
  obtain ⟨i0, hi, hz0, hz1, hz2⟩ := info_parts info64
  have hin := valid_any v zs w h hn
  cases hok : okW zs with
  | false =>
    rw [hok] at hin
    have HI := Lib.hid hin
    rw [lumF_no hok]
    clear hin hok h
    go_enter Try.func9, Try.ntmps9
    go_wp2_with fail
    refine HI.out.mono ?_
    rintro e w' ⟨rfl, rfl⟩
    go_wp2_with fail
    go_returns
    exact ⟨_, rfl, World.ownsRow_nil _ _ _ _, Below.refl _ _⟩
  | true =>
    rw [hok] at hin
    have HI := Lib.hid hin
    by_cases hta : t < 1
    · rw [lumF_out hok (inB_mkno (.inl hta))]
      clear hin hok h
      go_enter Try.func9, Try.ntmps9
      go_wp2_with fail
      refine HI.out.mono ?_
      rintro e w' ⟨rfl, rfl⟩
      go_wp2_with fail
      go_returns
      exact ⟨_, rfl, World.ownsRow_nil _ _ _ _, Below.refl _ _⟩
    · by_cases htb : 12 < t
      · rw [lumF_out hok (inB_mkno (.inr htb))]
        clear hin hok h
        go_enter Try.func9, Try.ntmps9
        go_wp2_with fail
        refine HI.out.mono ?_
        rintro e w' ⟨rfl, rfl⟩
        go_wp2_with fail
        go_returns
        exact ⟨_, rfl, World.ownsRow_nil _ _ _ _, Below.refl _ _⟩
      · rw [lumF_yes hok (inB_mk ⟨by omega, by omega⟩)]
        have HL := Lib.hid fun k wx hx hk => isLump_any v zs k t wx hx hok hk (by omega) (by omega)
        have hI := Lib.hid fun wr (hb : Below w.heap.size w wr) => h.below hb
        obtain ⟨a1, c1, rfl⟩ := h.len
        have hl := okW_len hok
        have U1 := Lib.hid (lumpsTo_length zs t)
        have U2 : Hid (∀ k, lumpB zs t k = true → lumpsTo zs t (k + 1) = lumpsTo zs t k ++ [(k : Int)]) := fun k hk => if_pos hk
        have U3 : Hid (∀ k, lumpB zs t k = false → lumpsTo zs t (k + 1) = lumpsTo zs t k) := fun k hk => if_neg (by rw [hk]; simp)
        clear hin hok h
        obtain ⟨n, hln⟩ : ∃ n, n = zs.length := ⟨_, rfl⟩
        rw [← hln] at HI HL hI hn hl ⊢
        clear hln
        obtain ⟨B, hBe⟩ : ∃ B, B = w.heap.size := ⟨_, rfl⟩
        have HB := Lib.hid hBe
        rw [← hBe] at hI ⊢
        clear hBe
        go_enter Try.func9, Try.ntmps9
        go_wp2_with fail
        refine HI.out.mono ?_
        rintro e w' ⟨rfl, rfl⟩
        go_wp2_with fail
        go_loopw [6, 19] (fun v i wr => ∃ (k : Nat) (u : Value), k ≤ n ∧ i = .int .i64 k ∧ u = v ∧ Hid (wr.ownsRow B 2 1 v (lumpsTo zs t k).length ((lumpsTo zs t k).map (Value.int .i64))) ∧ Hid (Below B w wr)) (fun _ i _ => n - (intOf i).toNat)
        case atStart => exact ⟨0, _, Nat.zero_le _, rfl, rfl, World.ownsRow_nil _ _ _ _, Below.refl _ _⟩
        case round =>
          obtain ⟨k, v, hk, rfl, rfl, hO, hE⟩ := hrel
          by_cases hlt : k < n
          · have u1 := U1.out k
            have u2 := Lib.hid (U2.out k)
            have u3 := Lib.hid (U3.out k)
            have hszB : B ≤ wr.heap.size := by have := hE.out.size; rw [HB.out]; exact this
            have hcall := HL.out k wr (hI.out wr hE.out) hlt
            cases hb : lumpB zs t k with
            | true =>
              rw [hb] at hcall
              have HU := Lib.hid (u2.out hb)
              have HCL := Lib.hid hcall
              clear u2 u3 hb hcall
              go_wp2_with fail
              refine HCL.out.mono ?_
              rintro e w1 ⟨rfl, hBc⟩
              have hE1 := Lib.hid (hE.out.trans (hBc.mono hszB))
              have hO1 := Lib.hid (Own.belowRow hO.out hBc)
              have hszB1 : B ≤ w1.heap.size := Nat.le_trans hszB hBc.size
              clear hBc
              go_wp2_with (first
                | (at_builtin; refine wpList_append_lies _ rfl _ _ _ rfl B 2 i0 (.int .i64 0) 1 8 Try.underlying24 hi hz0 hz1 hz2 rfl (by omega) v (lumpsTo zs t k).length _ rfl (hO1.out.alloc _) ⟨w1.heap.size, 0, none⟩ 1 1 _ rfl rfl (World.news_of_block (heap_alloc_new w1 _)) (one_one _) (by omega) (by unfold maxLen; omega) (by omega) (by simp; omega) (w1.heap.size + 1) (by simp) ?_; intro gg cap w2 hown1 hgrow hat hlt2)
                | go_in)
              have hE2 := hE1.out.grown (grown_alloc hgrow) hszB1 (fun j hj => (hO1.out.lt j hj).1)
              have HO2 : Hid (w2.ownsRow B 2 1 (.slice (some ⟨gg, 0, none⟩) ((lumpsTo zs t k).length + 1) cap) (lumpsTo zs t (k + 1)).length ((lumpsTo zs t (k + 1)).map (Value.int .i64))) := by
                rw [HU.out, List.map_append, List.length_append]
                exact hown1
              clear hgrow hown1 hat hlt2
              go_roundw
              case rel => exact ⟨k + 1, _, by omega, by go_num, rfl, HO2, hE2⟩
              case measure => simp [intOf]; omega
            | false =>
              rw [hb] at hcall
              have HU := Lib.hid (u3.out hb)
              have HCL := Lib.hid hcall
              clear u2 u3 hb hcall
              go_wp2_with fail
              refine HCL.out.mono ?_
              rintro e w1 ⟨rfl, hBc⟩
              have hE1 := Lib.hid (hE.out.trans (hBc.mono hszB))
              have hO1 := Lib.hid (Own.belowRow hO.out hBc)
              clear hBc
              go_wp2_with fail
              go_roundw
              case rel => exact ⟨k + 1, _, by omega, by go_num, rfl, by rw [HU.out]; exact hO1, hE1⟩
              case measure => simp [intOf]; omega
          · have hkn : k = n := by omega
            subst hkn
            go_wp2_with fail
            go_returns
            exact ⟨_, rfl, hO.out, hE.out⟩
end Go.Proofs.Ytocpigibognfpaa
