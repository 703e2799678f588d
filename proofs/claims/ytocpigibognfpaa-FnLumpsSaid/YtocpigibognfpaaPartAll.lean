/-
  No statement is proved here: what PartAll answers, in the document's own text; condition: at most 1048576 stripes.
-/
import Derived.Test.YtocpigibognfpaaLumpsIn
import Derived.Test.YtocpigibognfpaaPartLump
namespace Go.Proofs.Ytocpigibognfpaa
open Go.ChangeShapes Go.WideShapes Go.ChangeAt Go.RowKit

/-- The first lumps of a web parted, one after the other, at most so many; how many have been parted before. -/
def paF (t : Int) : Nat → List Int → Int → List Int × Int × Int
  | 0, zs, c => (zs, c, 0)
  | f + 1, zs, c =>
    match lumpsTo zs t zs.length with
    | [] => (zs, c, 0)
    | i :: _ => if okW (partL zs i.toNat) = true then paF t f (partL zs i.toNat) (c + 1) else ([], 0, 3)
theorem paF_zero (t : Int) (zs : List Int) (c : Int) : paF t 0 zs c = (zs, c, 0) := rfl
theorem paF_none {t : Int} {f : Nat} {zs : List Int} {c : Int} (h : lumpsTo zs t zs.length = []) : paF t (f + 1) zs c = (zs, c, 0) := by
  rw [paF, h]
theorem paF_some {t : Int} {f : Nat} {zs : List Int} {c : Int} {k : Nat} {tl : List Int} (h : lumpsTo zs t zs.length = (k : Int) :: tl) :
    paF t (f + 1) zs c = if okW (partL zs k) = true then paF t f (partL zs k) (c + 1) else ([], 0, 3) := by
  rw [paF, h]
  rfl
theorem paF_len (t : Int) : ∀ (f : Nat) (zs : List Int) (c : Int), zs.length ≤ 2097152 → (paF t f zs c).1.length ≤ 2097152
  | 0, zs, c, h => h
  | f + 1, zs, c, h => by
    rw [paF]
    split
    · exact h
    · split
      · exact paF_len t f _ _ (by rw [partL_length]; exact h)
      · simp

theorem lumpsTo_mem (zs : List Int) (t : Int) : ∀ (n : Nat) (x : Int), x ∈ lumpsTo zs t n → ∃ k, k < n ∧ x = (k : Int)
  | 0, x, h => by simp [lumpsTo] at h
  | n + 1, x, h => by
    unfold lumpsTo at h
    split at h
    · rcases List.mem_append.1 h with h | h
      · obtain ⟨k, hk, e⟩ := lumpsTo_mem zs t n x h
        exact ⟨k, by omega, e⟩
      · simp at h
        exact ⟨n, by omega, h⟩
    · obtain ⟨k, hk, e⟩ := lumpsTo_mem zs t n x h
      exact ⟨k, by omega, e⟩
theorem lumpsTo_head (zs : List Int) (t : Int) (k : Nat) (h0 : lumpsTo zs t k = []) (h1 : lumpB zs t k = true) : ∀ m, k < m → ∃ tl, lumpsTo zs t m = (k : Int) :: tl
  | 0, h => by omega
  | m + 1, h => by
    by_cases e : m = k
    · subst e
      exact ⟨[], by rw [lumpsTo, if_pos h1, h0]; rfl⟩
    · obtain ⟨tl, htl⟩ := lumpsTo_head zs t k h0 h1 m (by omega)
      rw [lumpsTo, htl]
      split
      · exact ⟨tl ++ [(m : Int)], rfl⟩
      · exact ⟨tl, rfl⟩

/-- What PartAll answers. -/
def pallF (zs : List Int) (t m : Int) : List Int × Int × Int := if okW zs = true then (if (inB t 1 12 && inB m 0 100) = true then paF t m.toNat zs 0 else ([], 0, 2)) else ([], 0, 1)
theorem pallF_no {zs : List Int} {t m : Int} (h : okW zs = false) : pallF zs t m = ([], 0, 1) := by simp [pallF, h]
theorem pallF_out {zs : List Int} {t m : Int} (h : okW zs = true) (h2 : (inB t 1 12 && inB m 0 100) = false) : pallF zs t m = ([], 0, 2) := by
  unfold pallF
  rw [if_pos h, if_neg (by rw [h2]; simp)]
theorem pallF_yes {zs : List Int} {t : Int} {m : Nat} (h : okW zs = true) (h2 : (inB t 1 12 && inB (m : Int) 0 100) = true) : pallF zs t (m : Int) = paF t m zs 0 := by
  unfold pallF
  rw [if_pos h, if_pos h2]
  rfl
theorem pallF_len (zs : List Int) (t m : Int) : (pallF zs t m).1.length ≤ 2097152 := by
  unfold pallF
  split
  · rename_i h
    have := okW_len h
    split
    · exact paF_len t _ zs 0 (by omega)
    · simp
  · simp

set_option maxRecDepth 100000 in
set_option maxHeartbeats 2000000 in
theorem specPartAll_any (v : Value) (zs : List Int) (t m : Int) (w : World) (h : Ints w v zs) (hn : zs.length ≤ 1048576) :
    Calls Try.prog 14 #[v, .int .i64 t, .int .i64 m] w fun e w' => ∃ r, e = .returned (.tuple #[r, .int .i64 (pallF zs t m).2.1, .int .i64 (pallF zs t m).2.2]) ∧ Own w' w.heap.size r (pallF zs t m).1 ∧ Below w.heap.size w w' := by
  have hin := l02Ok_any v zs w h hn
  cases hok : okW zs with
  | false =>
    rw [hok] at hin
    have HI := Lib.hid hin
    rw [pallF_no hok]
    clear hin hok h
    go_enter Try.func14, Try.ntmps14
    go_wp2_with fail
    refine HI.out.mono ?_
    rintro e w' ⟨rfl, rfl⟩
    go_wp2_with fail
    go_returns
    exact ⟨_, rfl, World.ownsRow_made w #[] 0 (Nat.le_refl _) (by decide) rfl, (Below.refl _ _).alloc (Nat.le_refl _) _⟩
  | true =>
    rw [hok] at hin
    have HI := Lib.hid hin
    have htm := l02Times_any t w
    have hmm := in_any m 0 100 w
    cases h2 : inB t 1 12 with
    | false =>
      rw [h2] at htm
      have HT := Lib.hid htm
      rw [pallF_out hok (by rw [h2]; rfl)]
      clear hin hok h htm h2 hmm
      go_enter Try.func14, Try.ntmps14
      go_wp2_with fail
      refine HI.out.mono ?_
      rintro e w' ⟨rfl, rfl⟩
      go_wp2_with fail
      refine HT.out.mono ?_
      rintro e w' ⟨rfl, rfl⟩
      go_wp2_with fail
      go_returns
      exact ⟨_, rfl, World.ownsRow_made w #[] 0 (Nat.le_refl _) (by decide) rfl, (Below.refl _ _).alloc (Nat.le_refl _) _⟩
    | true =>
      rw [h2] at htm
      have HT := Lib.hid htm
      cases h3 : inB m 0 100 with
      | false =>
        rw [h3] at hmm
        have HM := Lib.hid hmm
        rw [pallF_out hok (by rw [h2, h3]; rfl)]
        clear hin hok h htm h2 hmm h3
        go_enter Try.func14, Try.ntmps14
        go_wp2_with fail
        refine HI.out.mono ?_
        rintro e w' ⟨rfl, rfl⟩
        go_wp2_with fail
        refine HT.out.mono ?_
        rintro e w' ⟨rfl, rfl⟩
        go_wp2_with fail
        refine HM.out.mono ?_
        rintro e w' ⟨rfl, rfl⟩
        go_wp2_with fail
        go_returns
        exact ⟨_, rfl, World.ownsRow_made w #[] 0 (Nat.le_refl _) (by decide) rfl, (Below.refl _ _).alloc (Nat.le_refl _) _⟩
      | true =>
        rw [h3] at hmm
        have HM := Lib.hid hmm
        have hb := inB_of h2
        have hbm := inB_of h3
        obtain ⟨f, rfl⟩ := Int.eq_ofNat_of_zero_le hbm.1
        rw [pallF_yes hok (by rw [h2, h3]; rfl)]
        have HOW := Lib.hid (own_any v zs w h hn (by have := okW_len hok; omega))
        have HK := Lib.hid hok
        obtain ⟨R, hR⟩ : ∃ R, R = paF t f zs 0 := ⟨_, rfl⟩
        rw [← hR]
        have HR := Lib.hid hR
        clear hin hok h htm h2 hmm h3 hR
        go_enter Try.func14, Try.ntmps14
        go_wp2_with fail
        refine HI.out.mono ?_
        rintro e w' ⟨rfl, rfl⟩
        go_wp2_with fail
        refine HT.out.mono ?_
        rintro e w' ⟨rfl, rfl⟩
        go_wp2_with fail
        refine HM.out.mono ?_
        rintro e w' ⟨rfl, rfl⟩
        go_wp2_with fail
        refine HOW.out.mono ?_
        rintro e w1 ⟨r1, rfl, own, hB⟩
        have O1 := Lib.hid own
        have T1 := Lib.hid hB
        clear own hB
        go_wp2_with fail
        obtain ⟨B, hBe⟩ : ∃ B, B = w.heap.size := ⟨_, rfl⟩
        rw [← hBe] at O1 T1
        have HB := Lib.hid hBe
        clear hBe
        go_loopw [9, 10] (fun nv cc wr => ∃ (c : Nat) (u : Value) (cur : List Int), c ≤ f ∧ cc = .int .i64 c ∧ u = nv ∧ Hid (Own wr B nv cur) ∧ Hid (okW cur = true) ∧ Hid (paF t (f - c) cur (c : Int) = R) ∧ Hid (Below B w wr)) (fun _ cc _ => f - (intOf cc).toNat)
        case atStart => exact ⟨0, _, zs, Nat.zero_le _, rfl, rfl, O1, HK, HR.out.symm, T1⟩
        case round =>
          clear O1 T1
          obtain ⟨c, u, cur, hc, rfl, rfl, hO, hK, hP, hE⟩ := hrel
          by_cases hlt : c < f
          · have hL := l02Lumps_any u cur t wr hO.out.ints hK.out hb.1 hb.2
            have hl := okW_len hK.out
            have hBw : B ≤ wr.heap.size := Nat.le_trans (Nat.le_of_eq HB.out) hE.out.size
            have hP1 := hP.out
            rw [show f - c = (f - c - 1) + 1 by omega] at hP1
            cases hlm : lumpsTo cur t cur.length with
            | nil =>
              rw [hlm] at hL
              have HL := Lib.hid hL
              rw [paF_none hlm] at hP1
              have HP1 := Lib.hid hP1
              clear hL hlm hP1
              go_wp2_with fail
              refine HL.out.mono ?_
              rintro e w2 ⟨r2, rfl, own, hB2⟩
              obtain ⟨a2, c2, rfl⟩ := own.ints.nil
              have O2 := Lib.hid (hO.out.below hB2)
              have T2 := Lib.hid (hE.out.trans (hB2.mono hBw))
              clear own hB2
              go_wp2_with fail
              go_returns
              rw [← HP1.out]
              refine ⟨_, rfl, ?_, ?_⟩
              · have := O2.out
                rw [HB.out] at this
                exact this
              · have := T2.out
                rw [HB.out] at this
                exact this
            | cons x tl =>
              obtain ⟨k, hk, rfl⟩ := lumpsTo_mem cur t cur.length x (by rw [hlm]; exact List.mem_cons_self)
              rw [hlm] at hL
              have HL := Lib.hid hL
              rw [paF_some hlm] at hP1
              have HP1 := Lib.hid hP1
              have HPT := Lib.hid fun wx (hx : Below wr.heap.size wr wx) => l02Part_any u cur k wx (hO.out.below hx).ints hK.out hk
              clear hL hlm hP1
              go_wp2_with fail
              refine HL.out.mono ?_
              rintro e w2 ⟨r2, rfl, own, hB2⟩
              have hblk := own.block
              rcases hblk with ⟨hze, _⟩ | ⟨g, cap, rfl, hbg, hg, hob, hcc, hff⟩
              · simp at hze
              have cg := hcc 0 (by simp)
              simp only [List.getD_cons_zero] at cg
              have hne0 : (((((k : Int) :: tl).length : Nat) : Int) == 0) = false := by
                rw [beq_eq_false_iff_ne]
                simp
                omega
              obtain ⟨ln, hln⟩ : ∃ ln, ((k : Int) :: tl).length = ln := ⟨_, rfl⟩
              have hlp : 0 < ln := by rw [← hln]; simp
              rw [hln] at hne0 ⊢
              have T2 := Lib.hid (hE.out.trans (hB2.mono hBw))
              have HCP := Lib.hid (HPT.out w2 hB2)
              clear own hB2 hob hcc hff hln HPT
              have hBw2 : B ≤ w2.heap.size := Nat.le_trans (Nat.le_of_eq HB.out) T2.out.size
              go_wp2_with fail
              refine HCP.out.mono ?_
              rintro e w3 ⟨r3, rfl, own3, hB3⟩
              have O3 := Lib.hid own3
              have T3 := Lib.hid (T2.out.trans (hB3.mono hBw2))
              clear own3 hB3 cg
              cases hk3 : okW (partL cur k) with
              | false =>
                have hP2 := HP1.out
                rw [hk3] at hP2
                have HP2 := Lib.hid hP2
                clear hP2
                go_wp2_with fail
                go_returns
                rw [← HP2.out]
                have hs3 : w.heap.size ≤ w3.heap.size := T3.out.size
                refine ⟨_, rfl, World.ownsRow_made w3 #[] 0 hs3 (by decide) rfl, ?_⟩
                have := T3.out
                rw [HB.out] at this
                exact this.alloc hs3 _
              | true =>
                have hP2 := HP1.out
                rw [hk3, if_pos rfl] at hP2
                have HP2 := Lib.hid hP2
                have HK3 := Lib.hid hk3
                clear hP2 hk3
                go_wp2_with fail
                go_roundw
                case rel => exact ⟨c + 1, _, partL cur k, by omega, by go_num, rfl, O3.out.mono hBw2, HK3, by rw [show f - (c + 1) = f - c - 1 by omega]; exact HP2.out, T3⟩
                case measure => simp [intOf]; omega
          · have hcf : c = f := by omega
            subst hcf
            have hP1 := hP.out
            rw [Nat.sub_self, paF_zero] at hP1
            have HP1 := Lib.hid hP1
            clear hP1
            go_wp2_with fail
            go_returns
            rw [← HP1.out]
            refine ⟨_, rfl, ?_, ?_⟩
            · have := hO.out
              rw [HB.out] at this
              exact this
            · have := hE.out
              rw [HB.out] at this
              exact this
end Go.Proofs.Ytocpigibognfpaa
