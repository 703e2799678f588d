/-
  No statement is proved here: what WebText answers in the program; condition: the library's table of powers holds what its text lays.
-/
import Derived.Test.YtljnhggblmdlnaaDoorTextDefs
import Derived.Test.YtljnhggblmdlnaaDoorShelf
import Derived.Lib.LaidTab
namespace Go.Proofs.YtljnhggblmdlnaaDoor
open Go.ChangeShapes Go.WideShapes Go.ChangeAt Go.RowKit
open Go.Sort (grow)

theorem grown_of_below {w w' : World} (h : Below w.heap.size w w') (row : Option Nat) : w.grownBy w' row := ⟨h.os, h.tape, h.output, h.size, fun k hk _ => h.block k hk⟩
theorem below_grow0 (w : World) (os : Array Obj) : Below w.heap.size w (grow w os) :=
  ⟨rfl, rfl, rfl, by simp [grow], fun j hj => by simp [grow, Array.getElem?_append_left, hj]⟩
theorem below_drewN (w : World) : ∀ k, Below w.heap.size w (w.drewN k)
  | 0 => Below.refl _ _
  | k + 1 => (below_drewN w k).drew
theorem below_grow (w : World) (k : Nat) (os : Array Obj) : Below w.heap.size w (grow (w.drewN k) os) :=
  (below_drewN w k).trans ((below_grow0 (w.drewN k) os).mono (below_drewN w k).size)
theorem tab_below {w w' : World} {name : String} {k : IntKind} {ns : List Int} (h : Lib.TabIs Tryd.prog w name k ns) (hB : Below w.heap.size w w') : Lib.TabIs Tryd.prog w' name k ns := by
  unfold Lib.TabIs at h ⊢
  unfold World.var? at h ⊢
  cases hg : Tryd.prog.globalNamed name with
  | none => simp [hg] at h
  | some g =>
    simp only [hg, Option.bind_some] at h ⊢
    have hlt : g < w.heap.size := by
      rcases Nat.lt_or_ge g w.heap.size with h' | h'
      · exact h'
      · simp [Array.getElem?_eq_none h'] at h
    rw [hB.block g hlt]
    exact h

theorem tab_set {w : World} {name : String} {k : IntKind} {ns : List Int} {a : Addr} {u : Value} (h : Lib.TabIs Tryd.prog w name k ns) (hlt : ∀ g, Tryd.prog.globalNamed name = some g → g ≠ a.block) : Lib.TabIs Tryd.prog (w.setCell a u) name k ns := by
  unfold Lib.TabIs at h ⊢
  unfold World.var? at h ⊢
  cases hg : Tryd.prog.globalNamed name with
  | none => simp [hg] at h
  | some g =>
    simp only [hg, Option.bind_some] at h ⊢
    rw [Below.heap_setCell _ _ _ _ (hlt g hg)]
    exact h
theorem tab_lt {w : World} {name : String} {k : IntKind} {ns : List Int} (h : Lib.TabIs Tryd.prog w name k ns) : ∀ g, Tryd.prog.globalNamed name = some g → g < w.heap.size := by
  intro g hg
  unfold Lib.TabIs World.var? at h
  simp only [hg, Option.bind_some] at h
  rcases Nat.lt_or_ge g w.heap.size with h' | h'
  · exact h'
  · simp [Array.getElem?_eq_none h'] at h

set_option maxRecDepth 100000 in
theorem infoStr : (Tryd.prog.info? 9).map (fun i => (i.zero, i.size, i.bytes)) = some (some (.string ⟨#[]⟩), 1, 16) := by kernel_rfl

/-- The first k texts, and empty ones behind them. -/
def fillS (zs : List Int) (k : Nat) : List Value := (List.range zs.length).map fun j => if j < k then Value.string ⟨(dig zs j).toArray⟩ else Value.string ⟨#[]⟩
theorem fillS_length (zs : List Int) (k : Nat) : (fillS zs k).length = zs.length := by simp [fillS]
theorem fillS_get (zs : List Int) (k j : Nat) (hj : j < zs.length) : (fillS zs k)[j]? = some (if j < k then Value.string ⟨(dig zs j).toArray⟩ else Value.string ⟨#[]⟩) := by
  simp [fillS, hj]
theorem fillS_zero (zs : List Int) : fillS zs 0 = List.replicate zs.length (Value.string ⟨#[]⟩) := by
  refine List.ext_getElem? fun j => ?_
  by_cases hj : j < zs.length
  · rw [fillS_get zs 0 j hj, if_neg (by omega)]
    simp [hj]
  · rw [List.getElem?_eq_none (by rw [fillS_length]; omega), List.getElem?_eq_none (by simp; omega)]
theorem fillS_step (zs : List Int) (k : Nat) (hk : k < zs.length) : (fillS zs k).set k (Value.string ⟨(dig zs k).toArray⟩) = fillS zs (k + 1) := by
  refine List.ext_getElem? fun j => ?_
  by_cases hj : j < zs.length
  · rw [fillS_get zs (k + 1) j hj, List.getElem?_set]
    by_cases e : k = j
    · subst e
      rw [if_pos rfl, if_pos (by rw [fillS_length]; exact hk), if_pos (by omega)]
    · rw [if_neg e, fillS_get zs k j hj]
      by_cases e2 : j < k
      · rw [if_pos e2, if_pos (by omega)]
      · rw [if_neg e2, if_neg (by omega)]
  · rw [List.getElem?_eq_none (by simp [fillS_length]; omega), List.getElem?_eq_none (by rw [fillS_length]; omega)]
/-- The texts as strings. -/
def strs (zs : List Int) : List ByteArray := (List.range zs.length).map fun j => ⟨(dig zs j).toArray⟩
theorem strs_length (zs : List Int) : (strs zs).length = zs.length := by simp [strs]
theorem strs_lists (zs : List Int) : (strs zs).map (fun x => x.data.toList) = zs.map fun y => Lib.decDigits y.toNat := by
  refine List.ext_getElem? fun j => ?_
  by_cases hj : j < zs.length
  · simp [strs, hj, dig, List.getD]
  · rw [List.getElem?_eq_none (by simp [strs]; omega), List.getElem?_eq_none (by simp; omega)]
theorem strs_cells (zs : List Int) (j : Nat) (x : ByteArray) (h : (strs zs)[j]? = some x) : (fillS zs zs.length)[j]? = some (Value.string x) := by
  have hj : j < zs.length := by
    have := (List.getElem?_eq_some_iff.1 h).1
    rw [strs_length] at this
    exact this
  rw [fillS_get zs zs.length j hj, if_pos hj]
  simp [strs, hj] at h
  rw [← h]

set_option maxRecDepth 100000 in
set_option maxHeartbeats 4000000 in
theorem implText_any (v : Value) (zs : List Int) (w : World) (h : Ints w v zs) (hn : zs.length ≤ 1048576) (htab : Lib.TabIs Tryd.prog w "internal/strconv.uint64pow10" .u64 Lib.pow10Tab) :
    Calls Tryd.prog 8 #[v] w fun e w' => e = .returned (.string ⟨(textF zs).toArray⟩) ∧ Below w.heap.size w w' := by
  obtain ⟨i0, hi, hz0, hz1, hz2⟩ := info_parts infoStr
  have hin := valid_any v zs w h hn
  unfold textF
  cases hok : okW zs with
  | false =>
    rw [hok] at hin
    have HI := Lib.hid hin
    clear hin hok h hi hz0 hz1 hz2
    go_enter Tryd.func8, Tryd.ntmps8
    go_wp2_with fail
    refine HI.out.mono ?_
    rintro e w' ⟨rfl, rfl⟩
    go_wp2_with fail
    go_ret
    exact ⟨rfl, Below.refl _ _⟩
  | true =>
    rw [hok] at hin
    have HI := Lib.hid hin
    rw [if_pos rfl]
    have hl := okW_len hok
    have HJ := Lib.hid (txt_join (zs := zs) (by omega))
    have HTL := Lib.hid (txtTo_len hok zs.length)
    rcases h with ⟨a, cap, rfl, rfl⟩ | ⟨b1, o1, c1, rfl, h0, hbw, hc1⟩
    · simp at hl
    have HX := Lib.hid fun k hk => okW_get hok k hk
    have HC := Lib.hid hc1
    have HT := Lib.hid htab
    have TL := Lib.hid (tab_lt htab)
    have S1 := Lib.hid (fillS_step zs)
    have S2 := Lib.hid (fillS_length zs)
    have S3 := Lib.hid (fillS_zero zs)
    have S4 := Lib.hid (strs_cells zs)
    have S5 := Lib.hid (strs_length zs)
    have S6 := Lib.hid (strs_lists zs)
    obtain ⟨n, hln⟩ : ∃ n, n = zs.length := ⟨_, rfl⟩
    rw [← hln] at HX HC hl HJ HTL S1 S2 S3 S4 S5 HI ⊢
    clear hok hc1 hln h0 hin htab hn
    obtain ⟨B, hBe⟩ : ∃ B, B = w.heap.size := ⟨_, rfl⟩
    have HB := Lib.hid hBe
    rw [← hBe] at hbw TL ⊢
    clear hBe
    go_enter Tryd.func8, Tryd.ntmps8
    go_wp2_with fail
    refine HI.out.mono ?_
    rintro e w' ⟨rfl, rfl⟩
    go_wp2_with (first | (at_make; refine wpList_make_full _ rfl _ _ 38 rfl w.heap.size 9 i0 (.string ⟨#[]⟩) 1 Tryd.underlying38 hi hz0 hz1 _ _ _ _ n rfl rfl rfl rfl (by rw [hz2]; omega) (by unfold maxLen; omega) (Nat.le_refl _) ?_; intro w1 hown hgrow) | fail)
    have hB1 : Below B w w1 := (Below.refl _ _).grown hgrow (by rw [HB.out]; omega) (fun k hk => by cases hk)
    have hz0' : (madeCells (Value.string ⟨#[]⟩).cells (n * 1)).toList = fillS zs 0 := by
      rw [S3.out, Nat.mul_one]
      show (madeCells #[Value.string ⟨#[]⟩] n).toList = _
      rw [toList_madeCells_one]
    rw [hz0', ← HB.out] at hown
    rw [← HB.out]
    have HW := Lib.hid hown
    have HBB := Lib.hid hB1
    have HT1 := Lib.hid (tab_below HT.out (HB.out ▸ hB1))
    clear hown hB1 hgrow hz0' HT HI
    go_wp2_with fail
    go_loopw [14] (fun i wr => ∃ k : Nat, k ≤ n ∧ i = .int .i64 k ∧ Hid (wr.ownsRow B 9 1 (.slice (some ⟨B, 0, none⟩) n n) n (fillS zs k)) ∧ Hid (Below B w wr) ∧ Hid (Lib.TabIs Tryd.prog wr "internal/strconv.uint64pow10" .u64 Lib.pow10Tab)) (fun i _ => n - (intOf i).toNat)
    case atStart => exact ⟨0, Nat.zero_le _, rfl, HW, HBB, HT1⟩
    case round =>
      clear HW HBB HT1
      obtain ⟨k, hk, rfl, hO, hE, hT⟩ := hrel
      by_cases hlt : k < n
      · have hki : (k : Int) < (n : Int) := by omega
        have c1 : wr.cell? ⟨b1, o1 + k, none⟩ = some (.int .i64 (zs.getD k 0)) := (hE.out.cell (p := ⟨b1, o1 + k, none⟩) hbw).trans (HC.out k hlt)
        have hx := HX.out k hlt
        have u1 := S1.out k hlt
        obtain ⟨q, hq⟩ := Int.eq_ofNat_of_zero_le hx.1
        have hdg : dig zs k = Lib.decDigits q := by rw [dig, hq]; rfl
        rw [hq] at c1 hx
        rw [hdg] at u1
        have hcall := Tryd.strconv_FormatInt_10 (q : Int) (by omega) (by omega) wr hT.out
        rw [Lib.itoa_nonneg] at hcall
        obtain ⟨Y, hY⟩ : ∃ Y, Y = Lib.decDigits q := ⟨_, rfl⟩
        rw [← hY] at hcall u1
        have HCALL := Lib.hid hcall
        have HU := Lib.hid u1
        clear hq hdg hx hcall u1 hY
        go_wp2_with fail
        refine HCALL.out.mono ?_
        rintro e w2 ⟨rfl, nd, os, rfl⟩
        have hb2 := below_grow wr nd os
        have hO2 : World.ownsRow (grow (wr.drewN nd) os) B 9 1 (.slice (some ⟨B, 0, none⟩) n n) n (fillS zs k) := World.ownsRow.kept hO.out (grown_of_below hb2 none) (.inr (by simp [Value.ownBlock]))
        have E2 := Lib.hid (hE.out.trans (hb2.mono (by rw [HB.out]; exact hE.out.size)))
        have T2 := Lib.hid (tab_below hT.out hb2)
        clear hb2 hE hO hT HCALL c1
        generalize grow (wr.drewN nd) os = w3 at hO2 E2 T2 ⊢
        have OO := Lib.hid hO2
        have c2 : w3.cell? ⟨B, k, none⟩ = some ((fillS zs k).getD k (.string ⟨#[]⟩)) := (hO2.cellAt k (by omega)).trans (by rw [List.getD, List.getElem?_eq_getElem (by rw [S2.out]; exact hlt)]; rfl)
        have f2 : w3.frozen? ⟨B, k, none⟩ = false := hO2.frozenAt k
        clear hO2
        go_wp2_with fail
        have h1 := (OO.out.stored k (Value.string ⟨Y.toArray⟩)).1
        rw [HU.out] at h1
        go_roundw
        case rel => exact ⟨k + 1, by omega, by go_num, Lib.hid h1, Lib.hid (E2.out.setCell (p := ⟨B, k, none⟩) (Nat.le_refl _) _), Lib.hid (tab_set T2.out fun g hg => by have := TL.out g hg; show g ≠ B; omega)⟩
        case measure => simp [intOf]; omega
      · have hkn : k = n := by omega
        subst hkn
        have hcs : ∀ (j : Nat) x, (strs zs)[j]? = some x → wr.cell? ⟨B, 0 + j, none⟩ = some (.string x) := fun j x hx => by
          have h5 := S4.out j x hx
          have hj : j < k := by
            have := (List.getElem?_eq_some_iff.1 hx).1
            rw [S5.out] at this
            exact this
          rw [Nat.zero_add]
          exact (hO.out.cellAt j (by omega)).trans h5
        have hcall := Tryd.strings_Join B 0 k (strs zs) ⟨#[32]⟩ wr hcs (by have := hO.out.lt B rfl; omega) (by rw [S5.out]; omega) (by rw [S5.out]; omega) (by rw [S6.out]; show (Lib.join _ [32]).length ≤ _; rw [← HJ.out]; have := HTL.out; omega)
        rw [S5.out, S6.out] at hcall
        have hjj : Lib.join (zs.map fun y => Lib.decDigits y.toNat) (⟨#[32]⟩ : ByteArray).data.toList = txtTo zs k := HJ.out.symm
        rw [hjj] at hcall
        have HCALL := Lib.hid hcall
        clear hcall hjj hcs hO hT
        obtain ⟨X, hX⟩ : ∃ X, X = txtTo zs k := ⟨_, rfl⟩
        have HXX := Lib.hid hX
        rw [← hX] at HCALL
        clear hX
        go_wp2_with fail
        refine HCALL.out.mono ?_
        rintro e w2 ⟨rfl, hB⟩
        have E2 := Lib.hid (hE.out.trans (hB.mono (by rw [HB.out]; exact hE.out.size)))
        clear hB hE
        go_wp2_with fail
        go_ret
        rw [← HXX.out]
        exact ⟨rfl, E2.out⟩
end Go.Proofs.YtljnhggblmdlnaaDoor
