/-
  No statement is proved here: what MovesText answers in the program; condition: the library's table of powers hold what the text lays.
-/
import Derived.Test.YtajaiahfoknkcaaDoorMtText
import Derived.Test.YtajaiahfoknkcaaDoorShelf
import Derived.Lib.LaidTab
namespace Go.Proofs.YtajaiahfoknkcaaDoor
open Go.ChangeShapes Go.WideShapes Go.ChangeAt Go.RowKit
open Go.Sort (grow)

theorem grown_of_below {w w' : World} (h : Below w.heap.size w w') (row : Option Nat) : w.grownBy w' row := ⟨h.os, h.tape, h.output, h.size, fun k hk _ => h.block k hk⟩
theorem below_grow0 (w : World) (os : Array Obj) : Below w.heap.size w (grow w os) :=
  ⟨rfl, rfl, rfl, by simp [grow], fun j hj => by simp [grow, Array.getElem?_append_left, hj]⟩
theorem below_drewN (w : World) : ∀ k, Below w.heap.size w (w.drewN k)
  | 0 => Below.refl _ _
  | k + 1 => (below_drewN w k).drew
theorem below_grow (w : World) (k : Nat) (os : Array Obj) : Below w.heap.size w (grow (w.drewN k) os) :=
  (below_drewN w k).trans ((below_grow0 (w.drewN k) os).mono (below_drewN w k).size)
theorem tab_below {w w' : World} {name : String} {k : IntKind} {ns : List Int} (h : Lib.TabIs Tryd.prog w name k ns) (hB : Below w.heap.size w w') : Lib.TabIs Tryd.prog w' name k ns := by
  unfold Lib.TabIs at h ⊢
  unfold World.var? at h ⊢
  cases hg : Tryd.prog.globalNamed name with
  | none => simp [hg] at h
  | some g =>
    simp only [hg, Option.bind_some] at h ⊢
    have hlt : g < w.heap.size := by
      rcases Nat.lt_or_ge g w.heap.size with h' | h'
      · exact h'
      · simp [Array.getElem?_eq_none h'] at h
    rw [hB.block g hlt]
    exact h

theorem tab_set {w : World} {name : String} {k : IntKind} {ns : List Int} {a : Addr} {u : Value} (h : Lib.TabIs Tryd.prog w name k ns) (hlt : ∀ g, Tryd.prog.globalNamed name = some g → g ≠ a.block) : Lib.TabIs Tryd.prog (w.setCell a u) name k ns := by
  unfold Lib.TabIs at h ⊢
  unfold World.var? at h ⊢
  cases hg : Tryd.prog.globalNamed name with
  | none => simp [hg] at h
  | some g =>
    simp only [hg, Option.bind_some] at h ⊢
    rw [Below.heap_setCell _ _ _ _ (hlt g hg)]
    exact h
theorem tab_lt {w : World} {name : String} {k : IntKind} {ns : List Int} (h : Lib.TabIs Tryd.prog w name k ns) : ∀ g, Tryd.prog.globalNamed name = some g → g < w.heap.size := by
  intro g hg
  unfold Lib.TabIs World.var? at h
  simp only [hg, Option.bind_some] at h
  rcases Nat.lt_or_ge g w.heap.size with h' | h'
  · exact h'
  · simp [Array.getElem?_eq_none h'] at h

set_option maxRecDepth 100000 in
theorem infoStr : (Tryd.prog.info? 9).map (fun i => (i.zero, i.size, i.bytes)) = some (some (.string ⟨#[]⟩), 1, 16) := by kernel_rfl

theorem itoa_any (z : Int) (h0 : -1000000 ≤ z) (h1 : z ≤ 1000000) (w : World) (ht : Lib.TabIs Tryd.prog w "internal/strconv.uint64pow10" .u64 Lib.pow10Tab) :
    Calls Tryd.prog 13 #[.int .i64 z] w fun e w' => e = .returned (.string ⟨(Lib.itoa z).toArray⟩) ∧ Below w.heap.size w w' :=
  (Tryd.strconv_Itoa z (by omega) (by omega) w ht).mono fun e w' ⟨he, k, os, hw⟩ => ⟨he, hw ▸ below_grow w k os⟩

/-- The move's box, the texts that are made, and the table, in one world. -/
structure Wk (w W : World) (B n x : Nat) (qa qb qc : Int) (L : List Value) : Prop where
  one : W.cell? ⟨x, 0, none⟩ = some (.int .i8 qa)
  two : W.cell? ⟨x, 1, none⟩ = some (.int .i8 qb)
  three : W.cell? ⟨x, 2, none⟩ = some (.int .i16 qc)
  own : W.ownsRow B 9 1 (.slice (some ⟨B, 0, none⟩) n n) n L
  tab : Lib.TabIs Tryd.prog W "internal/strconv.uint64pow10" .u64 Lib.pow10Tab
  bel : Below B w W
  lt : B ≤ W.heap.size
theorem Wk.below {w W W' : World} {B n x : Nat} {qa qb qc : Int} {L : List Value} (h : Wk w W B n x qa qb qc L) (hB : Below W.heap.size W W') : Wk w W' B n x qa qb qc L :=
  ⟨(hB.cell (p := ⟨x, 0, none⟩) (World.block_lt_of_cell? W _ h.one)).trans h.one, (hB.cell (p := ⟨x, 1, none⟩) (World.block_lt_of_cell? W _ h.two)).trans h.two, (hB.cell (p := ⟨x, 2, none⟩) (World.block_lt_of_cell? W _ h.three)).trans h.three,
   World.ownsRow.kept h.own (grown_of_below hB none) (.inr (by simp [Value.ownBlock])), tab_below h.tab hB, h.bel.trans (hB.mono h.lt), Nat.le_trans h.lt hB.size⟩
theorem Wk.drew {w W : World} {B n x : Nat} {qa qb qc : Int} {L : List Value} (h : Wk w W B n x qa qb qc L) : Wk w W.drew B n x qa qb qc L := h.below (Below.refl _ _).drew
theorem Wk.cell {w W : World} {B n x : Nat} {qa qb qc : Int} {D : Nat → List UInt8} {k : Nat} (h : Wk w W B n x qa qb qc (fillG D n k)) (hk : k < n) : W.cell? ⟨B, k, none⟩ = some (.string ⟨#[]⟩) :=
  (h.own.cellAt k (by omega)).trans (by rw [fillG_get D n k k hk, if_neg (by omega)])

set_option maxRecDepth 100000 in
set_option maxHeartbeats 16000000 in
theorem implMtText_any (v : Value) (ys : List Mv) (w : World) (h : Mvs w v ys) (hn : ys.length ≤ 1048576) (htab : Lib.TabIs Tryd.prog w "internal/strconv.uint64pow10" .u64 Lib.pow10Tab) :
    Calls Tryd.prog 7 #[v] w fun e w' => e = .returned (.string ⟨(mtTextF ys).toArray⟩) ∧ Below w.heap.size w w' := by
  obtain ⟨i0, hi, hz0, hz1, hz2⟩ := info_parts infoStr
  have HV := Lib.hid (implMvs_any v ys w h hn)
  cases h1 : isMvs ys with
  | false =>
    rw [show mtTextF ys = [] by unfold mtTextF; rw [h1]; rfl]
    rw [h1] at HV
    obtain ⟨a0, c0, rfl⟩ := h.len
    clear h1 h htab hi hz0 hz1 hz2
    generalize ys.length = n at *
    go_enter Tryd.func7, Tryd.ntmps7
    go_wp2_with fail
    refine HV.out.mono ?_
    rintro e w' ⟨rfl, hB⟩
    go_wp2_with fail
    go_ret
    exact ⟨rfl, hB⟩
  | true =>
      rw [h1] at HV
      rw [show mtTextF ys = txtG (mtT ys) ys.length from if_pos h1]
      obtain ⟨h2, h2'⟩ := isMvs_of h1
      have HK := Lib.hid fun k hk => okM_of (allMv_get h2 k hk)
      have HLn := Lib.hid (txtG_len (mtT_len h2))
      have HJ := Lib.hid (txtG_join (mtT ys) ys.length)
      have HSt := Lib.hid (show ∀ k, mtT ys k = (((Lib.itoa (atMv ys k).1 ++ [62]) ++ Lib.itoa (atMv ys k).2.1) ++ [58]) ++ Lib.itoa (atMv ys k).2.2 from fun k => rfl)
      have HS0 := Lib.hid h
      obtain ⟨n, hln⟩ : ∃ n, n = ys.length := ⟨_, rfl⟩
      have HN := Lib.hid hln
      obtain ⟨a0, c0, rfl⟩ := h.len
      rw [← hln] at HK HJ HS0 HV h2' ⊢
      obtain ⟨D, hD⟩ : ∃ D, D = mtT ys := ⟨_, rfl⟩
      rw [← hD] at HLn HJ HSt ⊢
      have HT := Lib.hid htab
      clear h h1 h2 hln hD htab hn
      obtain ⟨B, hBe⟩ : ∃ B, B = w.heap.size := ⟨_, rfl⟩
      have HB0 := Lib.hid hBe
      rw [← hBe]
      clear hBe
      go_enter Tryd.func7, Tryd.ntmps7
      go_wp2_with fail
      refine HV.out.mono ?_
      rintro e w0 ⟨rfl, hB⟩
      have S0 := Lib.hid (HS0.out.below hB)
      have T0 := Lib.hid (tab_below HT.out hB)
      have E0 := Lib.hid (show Below B w w0 by rw [HB0.out]; exact hB)
      clear hB HS0 HT HV
      obtain ⟨C, hCe⟩ : ∃ C, C = w0.heap.size := ⟨_, rfl⟩
      have HC0 := Lib.hid hCe
      have HBC := Lib.hid (show B ≤ C by rw [HB0.out, hCe]; exact (show w.heap.size ≤ w0.heap.size by have := E0.out.size; rw [HB0.out] at *; exact this))
      have TL := Lib.hid (tab_lt T0.out)
      rw [← hCe] at TL
      clear hCe
      go_wp2_with (first | (at_make; refine wpList_make_full _ rfl _ _ 36 rfl w0.heap.size 9 i0 (.string ⟨#[]⟩) 1 Tryd.underlying36 hi hz0 hz1 _ _ _ _ n rfl rfl rfl rfl (by rw [hz2]; omega) (by unfold maxLen; omega) (Nat.le_refl _) ?_; intro w1 hown hgrow) | fail)
      have hB1 : Below w0.heap.size w0 w1 := (Below.refl _ _).grown hgrow (Nat.le_refl _) (fun k hk => by cases hk)
      have hz0' : (madeCells (Value.string ⟨#[]⟩).cells (n * 1)).toList = fillG D n 0 := by
        rw [fillG_zero, Nat.mul_one]
        show (madeCells #[Value.string ⟨#[]⟩] n).toList = _
        rw [toList_madeCells_one]
      rw [hz0', ← HC0.out] at hown
      rw [← HC0.out]
      have HW := Lib.hid hown
      have HBB := Lib.hid (show Below C w0 w1 by rw [HC0.out]; exact hB1)
      have HT1 := Lib.hid (tab_below T0.out hB1)
      have HEE := Lib.hid (show ∀ wx, Below C w0 wx → Below B w wx from fun wx hx => E0.out.trans (hx.mono HBC.out))
      clear hown hB1 hgrow hz0' T0 E0
      go_wp2_with fail
      go_loopw [14] (fun i wr => ∃ k : Nat, k ≤ n ∧ i = .int .i64 k ∧ Hid (wr.ownsRow C 9 1 (.slice (some ⟨C, 0, none⟩) n n) n (fillG D n k)) ∧ Hid (Below C w0 wr) ∧ Hid (Lib.TabIs Tryd.prog wr "internal/strconv.uint64pow10" .u64 Lib.pow10Tab)) (fun i _ => n - (intOf i).toNat)
      case atStart => exact ⟨0, Nat.zero_le _, rfl, HW, HBB, HT1⟩
      case round =>
        clear HW HBB HT1
        obtain ⟨k, hk, rfl, hO, hE, hT⟩ := hrel
        by_cases hlt : k < n
        · obtain ⟨b, off, cz, hv, hb, hc⟩ := S0.out.pos (by rw [← HN.out]; omega)
          obtain ⟨rfl, rfl⟩ : a0 = some ⟨b, off, none⟩ ∧ c0 = cz := by simp at hv; exact ⟨hv.1, hv.2.2⟩
          obtain ⟨p1, p2, p3⟩ := hc k (by rw [← HN.out]; exact hlt)
          have hki : (k : Int) < (n : Int) := by omega
          have hkk := HK.out k hlt
          have hstk := HSt.out k
          have hbC : b < C := by rw [HC0.out]; exact hb
          obtain ⟨y, hy⟩ : ∃ y, y = atMv ys k := ⟨_, rfl⟩
          rw [← hy] at p1 p2 p3 hkk hstk
          obtain ⟨qa, qb, qc⟩ := y
          simp only at p1 p2 p3 hkk hstk
          obtain ⟨⟨a1, a2⟩, ⟨b1, b2⟩, g1, g2⟩ := hkk
          have c1 := (hE.out.cell (p := ⟨b, off + k * 3, none⟩) hbC).trans p1
          have c2 := (hE.out.cell (p := ⟨b, off + k * 3 + 1, none⟩) hbC).trans p2
          have c3 := (hE.out.cell (p := ⟨b, off + k * 3 + 2, none⟩) hbC).trans p3
          have w1 : ∀ [Inhabited Nat], IntKind.i64.wrap qa = qa := by intro _; exact (IntWalk.i64_in _ (by omega)).trans (by omega)
          have w2 : ∀ [Inhabited Nat], IntKind.i64.wrap qb = qb := by intro _; exact (IntWalk.i64_in _ (by omega)).trans (by omega)
          have w3 : ∀ [Inhabited Nat], IntKind.i64.wrap qc = qc := by intro _; exact (IntWalk.i64_in _ (by omega)).trans (by omega)
          have hA := Lib.hid fun wx hx => itoa_any qa (by omega) (by omega) wx hx
          have hS := Lib.hid fun wx hx => itoa_any qb (by omega) (by omega) wx hx
          have hD := Lib.hid fun wx hx => itoa_any qc (by omega) (by omega) wx hx
          have la : (Lib.itoa qa).length ≤ 21 := itoa_short (by omega) (by omega)
          have lz : (Lib.itoa qb).length ≤ 21 := itoa_short (by omega) (by omega)
          have lc : (Lib.itoa qc).length ≤ 21 := itoa_short (by omega) (by omega)
          obtain ⟨Y, hY⟩ : ∃ Y, Y = Lib.itoa qa := ⟨_, rfl⟩
          obtain ⟨S, hS0⟩ : ∃ S, S = Lib.itoa qb := ⟨_, rfl⟩
          obtain ⟨Z, hZ⟩ : ∃ Z, Z = Lib.itoa qc := ⟨_, rfl⟩
          rw [← hY, ← hS0, ← hZ] at hstk
          rw [← hY] at hA la
          rw [← hS0] at hS lz
          rw [← hZ] at hD lc
          have hadd1 : ∀ wx : World, (Op.stringOp .add ⟨Y.toArray⟩ ⟨#[62]⟩).run Tryd.prog wx = .ok (.string ⟨(Y ++ [62]).toArray⟩) wx := fun wx => add_lists _ [62] (by omega) (by simp) wx
          have hadd2 : ∀ wx : World, (Op.stringOp .add ⟨(Y ++ [62]).toArray⟩ ⟨S.toArray⟩).run Tryd.prog wx = .ok (.string ⟨((Y ++ [62]) ++ S).toArray⟩) wx := fun wx => add_lists _ _ (by simp; omega) (by omega) wx
          have hadd3 : ∀ wx : World, (Op.stringOp .add ⟨((Y ++ [62]) ++ S).toArray⟩ ⟨#[58]⟩).run Tryd.prog wx = .ok (.string ⟨(((Y ++ [62]) ++ S) ++ [58]).toArray⟩) wx := fun wx => add_lists _ [58] (by simp; omega) (by simp) wx
          have hadd4 : ∀ wx : World, (Op.stringOp .add ⟨(((Y ++ [62]) ++ S) ++ [58]).toArray⟩ ⟨Z.toArray⟩).run Tryd.prog wx = .ok (.string ⟨((((Y ++ [62]) ++ S) ++ [58]) ++ Z).toArray⟩) wx := fun wx => add_lists _ _ (by simp; omega) (by omega) wx
          have hU := fillG_step D n k
          rw [hstk] at hU
          obtain ⟨Y1, hY1⟩ : ∃ Y1, Y1 = Y ++ [62] := ⟨_, rfl⟩
          obtain ⟨Y2, hY2⟩ : ∃ Y2, Y2 = (Y ++ [62]) ++ S := ⟨_, rfl⟩
          obtain ⟨Y3, hY3⟩ : ∃ Y3, Y3 = ((Y ++ [62]) ++ S) ++ [58] := ⟨_, rfl⟩
          obtain ⟨Y4, hY4⟩ : ∃ Y4, Y4 = (((Y ++ [62]) ++ S) ++ [58]) ++ Z := ⟨_, rfl⟩
          rw [← hY4] at hU
          rw [← hY4, ← hY3] at hadd4
          rw [← hY3, ← hY2] at hadd3
          rw [← hY2, ← hY1] at hadd2
          rw [← hY1] at hadd1
          have HU := Lib.hid hU
          have hba : Below wr.heap.size wr (wr.alloc (.cells #[.int .i8 qa, .int .i8 qb, .int .i16 qc] 33)) := (Below.refl _ _).alloc (Nat.le_refl _) _
          have hlw : C ≤ wr.heap.size := by have := hO.out.lt C rfl; omega
          have KK : Wk w0 (wr.alloc (.cells #[.int .i8 qa, .int .i8 qb, .int .i16 qc] 33)).drew C n wr.heap.size qa qb qc (fillG D n k) :=
            Wk.drew ⟨by simp [go_sem], by simp [go_sem], by simp [go_sem], World.ownsRow.kept hO.out (grown_of_below hba none) (.inr (by simp [Value.ownBlock])), tab_below hT.out hba, hE.out.trans (hba.mono hlw), Nat.le_trans hlw hba.size⟩
          have HKK := Lib.hid hlt
          clear hba hlw hU hY1 hY2 hY3 hY4 hy hY hS0 hZ hstk p1 p2 p3 a1 a2 b1 b2 g1 g2 la lz lc hv hb hc hO hE hT hbC
          go_wp2_with fail
          clear c1 c2 c3
          go_region_with (first
            | (go_at_call_of 13 (Value.int .i64 qa); refine (hA.out _ (Wk.tab (by assumption))).mono ?_; rintro e w' ⟨rfl, hB⟩; have KN := Wk.below (by assumption) hB; have d1 := KN.one; have d2 := KN.two; have d3 := KN.three; have d4 := KN.cell HKK.out; have d5 : w'.frozen? ⟨C, k, none⟩ = false := KN.own.frozenAt k; clear hB)
            | (go_at_call_of 13 (Value.int .i64 qb); refine (hS.out _ (Wk.tab (by assumption))).mono ?_; rintro e w' ⟨rfl, hB⟩; have KN := Wk.below (by assumption) hB; have d1 := KN.one; have d2 := KN.two; have d3 := KN.three; have d4 := KN.cell HKK.out; have d5 : w'.frozen? ⟨C, k, none⟩ = false := KN.own.frozenAt k; clear hB)
            | (go_at_call_of 13 (Value.int .i64 qc); refine (hD.out _ (Wk.tab (by assumption))).mono ?_; rintro e w' ⟨rfl, hB⟩; have KN := Wk.below (by assumption) hB; have d1 := KN.one; have d2 := KN.two; have d3 := KN.three; have d4 := KN.cell HKK.out; have d5 : w'.frozen? ⟨C, k, none⟩ = false := KN.own.frozenAt k; clear hB))
          all_goals
            have h1 := (KN.own.stored k (Value.string ⟨Y4.toArray⟩)).1
            rw [HU.out] at h1
            have H1 := Lib.hid h1
            have E3 := Lib.hid (KN.bel.setCell (p := ⟨C, k, none⟩) (Nat.le_refl _) (Value.string ⟨Y4.toArray⟩))
            have T3 := Lib.hid (tab_set (a := ⟨C, k, none⟩) (u := Value.string ⟨Y4.toArray⟩) KN.tab fun g hg => by have := TL.out g hg; show g ≠ C; omega)
            clear h1 KK
            go_wp2_with fail
            go_roundw
            case rel => exact ⟨k + 1, by omega, by go_num, H1, E3, T3⟩
            case measure => simp [intOf]; omega
        · have hkn : k = n := by omega
          subst hkn
          have hcs : ∀ (j : Nat) x, (strsG D k)[j]? = some x → wr.cell? ⟨C, 0 + j, none⟩ = some (.string x) := fun j x hx => by
            have h5 := strsG_cells D k j x hx
            have hj : j < k := by
              have := (List.getElem?_eq_some_iff.1 hx).1
              rw [strsG_length] at this
              exact this
            rw [Nat.zero_add]
            exact (hO.out.cellAt j (by omega)).trans h5
          have hcall := Tryd.strings_Join C 0 k (strsG D k) ⟨#[32]⟩ wr hcs (by have := hO.out.lt C rfl; omega) (by rw [strsG_length]; omega) (by rw [strsG_length]; omega) (by rw [strsG_lists]; show (Lib.join _ [32]).length ≤ _; rw [← HJ.out]; have := HLn.out k; omega)
          rw [strsG_length, strsG_lists] at hcall
          have hjj : Lib.join ((List.range k).map D) (⟨#[32]⟩ : ByteArray).data.toList = txtG D k := HJ.out.symm
          rw [hjj] at hcall
          have HCALL := Lib.hid hcall
          clear hcall hjj hcs hT
          obtain ⟨X, hX⟩ : ∃ X, X = txtG D k := ⟨_, rfl⟩
          rw [← hX] at HCALL
          have HXX := Lib.hid hX
          clear hX
          go_wp2_with fail
          refine HCALL.out.mono ?_
          rintro e w2 ⟨rfl, hB⟩
          have E2 := Lib.hid (HEE.out _ (hE.out.trans (hB.mono (by have := hO.out.lt C rfl; omega))))
          clear hB hE hO
          go_wp2_with fail
          go_ret
          rw [← HXX.out]
          exact ⟨rfl, E2.out⟩
end Go.Proofs.YtajaiahfoknkcaaDoor
