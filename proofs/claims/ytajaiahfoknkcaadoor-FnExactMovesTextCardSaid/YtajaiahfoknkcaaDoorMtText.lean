/-
  No statement is proved here: the text of moves in the document's own text; condition: at most 1048576 moves.
-/
import Derived.Test.YtajaiahfoknkcaaDoorTextG
import Derived.Test.YtajaiahfoknkcaaDoorDecimal
import Derived.Test.YtajaiahfoknkcaaDoorMvV
import Derived.Lib.ItoaMem
namespace Go.Proofs.YtajaiahfoknkcaaDoor
open Go.ChangeShapes Go.WideShapes Go.ChangeAt Go.RowKit

/-- The text of one move, and of moves that may have one. -/
def mtT (ys : List Mv) (k : Nat) : List UInt8 := (((Lib.itoa (atMv ys k).1 ++ [62]) ++ Lib.itoa (atMv ys k).2.1) ++ [58]) ++ Lib.itoa (atMv ys k).2.2
def mtTextF (ys : List Mv) : List UInt8 := if isMvs ys = true then txtG (mtT ys) ys.length else []
theorem okM_of {y : Mv} (h : okMv y = true) : (0 ≤ y.1 ∧ y.1 ≤ 2) ∧ (0 ≤ y.2.1 ∧ y.2.1 ≤ 4) ∧ (1 ≤ y.2.2 ∧ y.2.2 ≤ 5000) := by
  obtain ⟨a, b, e1, e2, h1, h2, h3, h4, h5, h6⟩ := okMv_parts (y0 := y.1) (y1 := y.2.1) (y2 := y.2.2) h
  omega
theorem itoa_short {z : Int} (h0 : -1000000 ≤ z) (h1 : z ≤ 1000000) : (Lib.itoa z).length ≤ 21 := Lib.itoa_length_le z (by omega) (by omega)
theorem mtT_len {ys : List Mv} (h : allMv ys = true) (k : Nat) : (mtT ys k).length ≤ 99 := by
  have h1 : (0 ≤ (atMv ys k).1 ∧ (atMv ys k).1 ≤ 1000000) ∧ (-1000000 ≤ (atMv ys k).2.1 ∧ (atMv ys k).2.1 ≤ 1000000) ∧ (0 ≤ (atMv ys k).2.2 ∧ (atMv ys k).2.2 ≤ 1000000) := by
    by_cases hk : k < ys.length
    · have := okM_of (allMv_get h k hk)
      omega
    · rw [atMv, List.getD, List.getElem?_eq_none (by omega)]
      simp
  have h2 := itoa_short (z := (atMv ys k).1) (by omega) (by omega)
  have h3 := itoa_short (z := (atMv ys k).2.1) (by omega) (by omega)
  have h4 := itoa_short (z := (atMv ys k).2.2) (by omega) (by omega)
  unfold mtT
  simp only [List.length_append, List.length_cons, List.length_nil]
  omega

/-- Three cells of a block below B, and what lies there, are as they were. -/
structure Three (w W : World) (b o1 o2 o3 : Nat) (u v x : Value) : Prop where
  one : W.cell? ⟨b, o1, none⟩ = some u
  two : W.cell? ⟨b, o2, none⟩ = some v
  three : W.cell? ⟨b, o3, none⟩ = some x
  bel : Below w.heap.size w W
theorem Three.below {w W W' : World} {b o1 o2 o3 : Nat} {u v x : Value} (h : Three w W b o1 o2 o3 u v x) (hB : Below W.heap.size W W') : Three w W' b o1 o2 o3 u v x :=
  ⟨(hB.cell (p := ⟨b, o1, none⟩) (World.block_lt_of_cell? W _ h.one)).trans h.one, (hB.cell (p := ⟨b, o2, none⟩) (World.block_lt_of_cell? W _ h.two)).trans h.two,
   (hB.cell (p := ⟨b, o3, none⟩) (World.block_lt_of_cell? W _ h.three)).trans h.three, h.bel.trans (hB.mono h.bel.size)⟩

set_option maxRecDepth 100000 in
set_option maxHeartbeats 8000000 in
theorem l07Text_any (v : Value) (ys : List Mv) (w : World) (h : Mvs w v ys) (hok : isMvs ys = true) :
    Calls Tryd.prog 10 #[v] w fun e w' => e = .returned (.string ⟨(txtG (mtT ys) ys.length).toArray⟩) ∧ Below w.heap.size w w' := by
  obtain ⟨hal, hl8⟩ := isMvs_of hok
  by_cases h0 : ys.length = 0
  · have hx : ys = [] := List.length_eq_zero_iff.1 h0
    subst hx
    obtain ⟨a, cap, rfl⟩ := h.nil
    go_enter Tryd.func10, Tryd.ntmps10
    go_wp2
    go_rounds 1
    go_ret
    exact ⟨rfl, Below.refl _ _⟩
  · obtain ⟨b, off, cap, rfl, hb, hc⟩ := h.pos (by omega)
    have HK := Lib.hid fun k hk => okM_of (allMv_get hal k hk)
    have HLn := Lib.hid (txtG_len (mtT_len hal))
    have HSt := Lib.hid (show ∀ k, mtT ys k = (((Lib.itoa (atMv ys k).1 ++ [62]) ++ Lib.itoa (atMv ys k).2.1) ++ [58]) ++ Lib.itoa (atMv ys k).2.2 from fun k => rfl)
    have HOne := Lib.hid (txtG_one (mtT ys))
    have HStep := Lib.hid (txtG_step (mtT ys))
    obtain ⟨n, hln⟩ : ∃ n, n = ys.length := ⟨_, rfl⟩
    rw [← hln] at hc hl8 h0 HK ⊢
    have HC := Lib.hid hc
    clear hc hln h hal hok
    obtain ⟨T, hT⟩ : ∃ T : Nat → List UInt8, T = txtG (mtT ys) := ⟨_, rfl⟩
    rw [← hT] at HLn HOne HStep ⊢
    have HT0 := Lib.hid (show T 0 = [] by rw [hT]; rfl)
    clear hT
    have hst : (Value.string ⟨#[]⟩) = .string ⟨(T 0).toArray⟩ := by rw [HT0.out]
    have HST := Lib.hid hst
    clear hst
    go_enter Tryd.func10, Tryd.ntmps10
    go_wp2_with fail
    go_loopw [3, 4] (fun s i wr => ∃ k : Nat, k ≤ n ∧ i = .int .i64 k ∧ s = .string ⟨(T k).toArray⟩ ∧ Hid (Below w.heap.size w wr)) (fun _ i _ => n - (intOf i).toNat)
    case atStart => exact ⟨0, Nat.zero_le _, rfl, HST.out, Below.refl _ _⟩
    case round =>
      obtain ⟨k, hk, rfl, rfl, hE⟩ := hrel
      by_cases hlt : k < n
      · have hki : (k : Int) < (n : Int) := by omega
        obtain ⟨p1, p2, p3⟩ := HC.out k hlt
        have hkk := HK.out k hlt
        have hstk := HSt.out k
        have hone := HOne.out
        have hstep := HStep.out k
        obtain ⟨y, hy⟩ : ∃ y, y = atMv ys k := ⟨_, rfl⟩
        rw [← hy] at p1 p2 p3 hkk hstk
        obtain ⟨y0, y1, y2⟩ := y
        simp only at p1 p2 p3 hkk hstk
        obtain ⟨⟨a1, a2⟩, ⟨b1, b2⟩, g1, g2⟩ := hkk
        obtain ⟨qa, rfl⟩ : ∃ qa : Nat, y0 = (qa : Int) := ⟨y0.toNat, by omega⟩
        obtain ⟨qb, rfl⟩ : ∃ qb : Nat, y1 = (qb : Int) := ⟨y1.toNat, by omega⟩
        obtain ⟨qc, rfl⟩ : ∃ qc : Nat, y2 = (qc : Int) := ⟨y2.toNat, by omega⟩
        have c1 := (hE.out.cell (p := ⟨b, off + k * 3, none⟩) hb).trans p1
        have c2 := (hE.out.cell (p := ⟨b, off + k * 3 + 1, none⟩) hb).trans p2
        have c3 := (hE.out.cell (p := ⟨b, off + k * 3 + 2, none⟩) hb).trans p3
        have w1 : ∀ [Inhabited Nat], IntKind.i64.wrap (qa : Int) = (qa : Int) := by intro _; exact (IntWalk.i64_in _ (by omega)).trans (by omega)
        have w2 : ∀ [Inhabited Nat], IntKind.i64.wrap (qb : Int) = (qb : Int) := by intro _; exact (IntWalk.i64_in _ (by omega)).trans (by omega)
        have w3 : ∀ [Inhabited Nat], IntKind.i64.wrap (qc : Int) = (qc : Int) := by intro _; exact (IntWalk.i64_in _ (by omega)).trans (by omega)
        have hA := Lib.hid (decimal_any qa (by omega))
        have hS := Lib.hid (decimal_any qb (by omega))
        have hD := Lib.hid (decimal_any qc (by omega))
        rw [Lib.itoa_nonneg, Lib.itoa_nonneg, Lib.itoa_nonneg] at hstk
        have la : (Lib.decDigits qa).length ≤ 20 := dec_short _ (by omega)
        have lz : (Lib.decDigits qb).length ≤ 20 := dec_short _ (by omega)
        have lc : (Lib.decDigits qc).length ≤ 20 := dec_short _ (by omega)
        have lT := HLn.out k
        obtain ⟨Y, hY⟩ : ∃ Y, Y = Lib.decDigits qa := ⟨_, rfl⟩
        obtain ⟨S, hS0⟩ : ∃ S, S = Lib.decDigits qb := ⟨_, rfl⟩
        obtain ⟨Z, hZ⟩ : ∃ Z, Z = Lib.decDigits qc := ⟨_, rfl⟩
        rw [← hY, ← hS0, ← hZ] at hstk
        rw [← hY] at hA la
        rw [← hS0] at hS lz
        rw [← hZ] at hD lc
        have hadd1 : ∀ wx : World, (Op.stringOp .add ⟨Y.toArray⟩ ⟨#[62]⟩).run Tryd.prog wx = .ok (.string ⟨(Y ++ [62]).toArray⟩) wx := fun wx => add_lists _ [62] (by omega) (by simp) wx
        have hadd2 : ∀ wx : World, (Op.stringOp .add ⟨(Y ++ [62]).toArray⟩ ⟨S.toArray⟩).run Tryd.prog wx = .ok (.string ⟨((Y ++ [62]) ++ S).toArray⟩) wx := fun wx => add_lists _ _ (by simp; omega) (by omega) wx
        have hadd3 : ∀ wx : World, (Op.stringOp .add ⟨((Y ++ [62]) ++ S).toArray⟩ ⟨#[58]⟩).run Tryd.prog wx = .ok (.string ⟨(((Y ++ [62]) ++ S) ++ [58]).toArray⟩) wx := fun wx => add_lists _ [58] (by simp; omega) (by simp) wx
        have hadd4 : ∀ wx : World, (Op.stringOp .add ⟨(((Y ++ [62]) ++ S) ++ [58]).toArray⟩ ⟨Z.toArray⟩).run Tryd.prog wx = .ok (.string ⟨((((Y ++ [62]) ++ S) ++ [58]) ++ Z).toArray⟩) wx := fun wx => add_lists _ _ (by simp; omega) (by omega) wx
        have lW : ((((Y ++ [62]) ++ S) ++ [58]) ++ Z).length ≤ 1000 := by simp only [List.length_append, List.length_cons, List.length_nil]; omega
        clear hy hY hZ hS0 p1 p2 p3 a1 a2 b1 b2 g1 g2 la lz lc
        by_cases h0 : k = 0
        · have hst : T (k + 1) = T k ++ ((((Y ++ [62]) ++ S) ++ [58]) ++ Z) := by rw [h0, hone, ← hstk, h0, HT0.out]; rfl
          have hadd5 : ∀ wx : World, (Op.stringOp .add ⟨(T k).toArray⟩ ⟨((((Y ++ [62]) ++ S) ++ [58]) ++ Z).toArray⟩).run Tryd.prog wx = .ok (.string ⟨(T (k + 1)).toArray⟩) wx := fun wx => by
            rw [hst]
            exact add_lists _ _ (by omega) (by omega) wx
          have h0' : (k : Int) ≤ 0 := by omega
          clear hst hone hstep hstk h0
          obtain ⟨X, hX⟩ : ∃ X, X = T k := ⟨_, rfl⟩
          obtain ⟨Y1, hY1⟩ : ∃ Y1, Y1 = Y ++ [62] := ⟨_, rfl⟩
          obtain ⟨Y2, hY2⟩ : ∃ Y2, Y2 = (Y ++ [62]) ++ S := ⟨_, rfl⟩
          obtain ⟨Y3, hY3⟩ : ∃ Y3, Y3 = ((Y ++ [62]) ++ S) ++ [58] := ⟨_, rfl⟩
          obtain ⟨Y4, hY4⟩ : ∃ Y4, Y4 = (((Y ++ [62]) ++ S) ++ [58]) ++ Z := ⟨_, rfl⟩
          obtain ⟨X2, hX2⟩ : ∃ X2, X2 = T (k + 1) := ⟨_, rfl⟩
          have HZ := Lib.hid hX2
          rw [← hY4, ← hY3] at hadd4
          rw [← hY3, ← hY2] at hadd3
          rw [← hY2, ← hY1] at hadd2
          rw [← hY1] at hadd1
          rw [← hX, ← hY4, ← hX2] at hadd5
          rw [← hX]
          clear hX hX2 hY1 hY2 hY3 hY4 lT lW
          have KK : Three w wr.drew b (off + k * 3) (off + k * 3 + 1) (off + k * 3 + 2) (.int .i8 (qa : Int)) (.int .i8 (qb : Int)) (.int .i16 (qc : Int)) := ⟨c1, c2, c3, hE.out.drew⟩
          go_wp2_with fail
          go_region_with (first
            | (go_at_call_of 17 (Value.int .i64 (qa : Int)); refine (hA.out _).mono ?_; rintro e w' ⟨rfl, hB⟩; have KN := Three.below (by assumption) hB; have d1 := KN.one; have d2 := KN.two; have d3 := KN.three; clear hB)
            | (go_at_call_of 17 (Value.int .i64 (qc : Int)); refine (hD.out _).mono ?_; rintro e w' ⟨rfl, hB⟩; have KN := Three.below (by assumption) hB; have d1 := KN.one; have d2 := KN.two; have d3 := KN.three; clear hB)
            | (go_at_call_of 17 (Value.int .i64 (qb : Int)); refine (hS.out _).mono ?_; rintro e w' ⟨rfl, hB⟩; have KN := Three.below (by assumption) hB; have d1 := KN.one; have d2 := KN.two; have d3 := KN.three; clear hB))
          all_goals
            have EE := Lib.hid KN.bel
            clear KK
            go_wp2_with fail
            go_roundw
            case rel => exact ⟨k + 1, by omega, by go_num, by rw [HZ.out], EE⟩
            case measure => simp [intOf]; omega
        · have hst : T (k + 1) = (T k ++ [32]) ++ ((((Y ++ [62]) ++ S) ++ [58]) ++ Z) := by rw [hstep (by omega), hstk]
          have hadd0 : ∀ wx : World, (Op.stringOp .add ⟨(T k).toArray⟩ ⟨#[32]⟩).run Tryd.prog wx = .ok (.string ⟨(T k ++ [32]).toArray⟩) wx := fun wx => add_lists _ [32] (by omega) (by simp) wx
          have hadd5 : ∀ wx : World, (Op.stringOp .add ⟨(T k ++ [32]).toArray⟩ ⟨((((Y ++ [62]) ++ S) ++ [58]) ++ Z).toArray⟩).run Tryd.prog wx = .ok (.string ⟨(T (k + 1)).toArray⟩) wx := fun wx => by
            rw [hst]
            exact add_lists _ _ (by simp; omega) (by omega) wx
          have h0' : (0 : Int) < (k : Int) := by omega
          have h0'' : 0 < k := by omega
          clear hst hone hstep hstk h0
          obtain ⟨X, hX⟩ : ∃ X, X = T k := ⟨_, rfl⟩
          obtain ⟨X1, hX1⟩ : ∃ X1, X1 = T k ++ [32] := ⟨_, rfl⟩
          obtain ⟨Y1, hY1⟩ : ∃ Y1, Y1 = Y ++ [62] := ⟨_, rfl⟩
          obtain ⟨Y2, hY2⟩ : ∃ Y2, Y2 = (Y ++ [62]) ++ S := ⟨_, rfl⟩
          obtain ⟨Y3, hY3⟩ : ∃ Y3, Y3 = ((Y ++ [62]) ++ S) ++ [58] := ⟨_, rfl⟩
          obtain ⟨Y4, hY4⟩ : ∃ Y4, Y4 = (((Y ++ [62]) ++ S) ++ [58]) ++ Z := ⟨_, rfl⟩
          obtain ⟨X2, hX2⟩ : ∃ X2, X2 = T (k + 1) := ⟨_, rfl⟩
          have HZ := Lib.hid hX2
          rw [← hY4, ← hY3] at hadd4
          rw [← hY3, ← hY2] at hadd3
          rw [← hY2, ← hY1] at hadd2
          rw [← hY1] at hadd1
          rw [← hX1, ← hX] at hadd0
          rw [← hX1, ← hY4, ← hX2] at hadd5
          rw [← hX]
          clear hX hX1 hX2 hY1 hY2 hY3 hY4 lT lW
          have KK : Three w wr.drew b (off + k * 3) (off + k * 3 + 1) (off + k * 3 + 2) (.int .i8 (qa : Int)) (.int .i8 (qb : Int)) (.int .i16 (qc : Int)) := ⟨c1, c2, c3, hE.out.drew⟩
          go_wp2_with fail
          go_region_with (first
            | (go_at_call_of 17 (Value.int .i64 (qa : Int)); refine (hA.out _).mono ?_; rintro e w' ⟨rfl, hB⟩; have KN := Three.below (by assumption) hB; have d1 := KN.one; have d2 := KN.two; have d3 := KN.three; clear hB)
            | (go_at_call_of 17 (Value.int .i64 (qc : Int)); refine (hD.out _).mono ?_; rintro e w' ⟨rfl, hB⟩; have KN := Three.below (by assumption) hB; have d1 := KN.one; have d2 := KN.two; have d3 := KN.three; clear hB)
            | (go_at_call_of 17 (Value.int .i64 (qb : Int)); refine (hS.out _).mono ?_; rintro e w' ⟨rfl, hB⟩; have KN := Three.below (by assumption) hB; have d1 := KN.one; have d2 := KN.two; have d3 := KN.three; clear hB))
          all_goals
            have EE := Lib.hid KN.bel
            clear KK
            go_wp2_with fail
            go_roundw
            case rel => exact ⟨k + 1, by omega, by go_num, by rw [HZ.out], EE⟩
            case measure => simp [intOf]; omega
      · have hkn : k = n := by omega
        subst hkn
        go_wp2_with fail
        go_ret
        exact ⟨rfl, hE.out⟩

set_option maxRecDepth 100000 in
set_option maxHeartbeats 2000000 in
theorem specMtText_any (v : Value) (ys : List Mv) (w : World) (h : Mvs w v ys) (hn : ys.length ≤ 1048576) :
    Calls Tryd.prog 5 #[v] w fun e w' => e = .returned (.string ⟨(mtTextF ys).toArray⟩) ∧ Below w.heap.size w w' := by
  have HV := Lib.hid (specMvs0_any v ys w h hn)
  have HT := Lib.hid fun wx (hx : Mvs wx v ys) hok => l07Text_any v ys wx hx hok
  have HY := Lib.hid h
  obtain ⟨a0, c0, rfl⟩ := h.len
  clear h
  cases h1 : isMvs ys with
  | false =>
    rw [show mtTextF ys = [] by unfold mtTextF; rw [h1]; rfl]
    rw [h1] at HV
    clear h1 HT
    generalize ys.length = n at *
    go_enter Tryd.func5, Tryd.ntmps5
    go_wp2_with fail
    refine HV.out.mono ?_
    rintro e w1 ⟨rfl, hB⟩
    go_wp2_with fail
    go_ret
    exact ⟨rfl, hB⟩
  | true =>
    rw [show mtTextF ys = txtG (mtT ys) ys.length from if_pos h1]
    rw [h1] at HV
    have HT2 := Lib.hid fun wx hx => HT.out wx hx h1
    obtain ⟨X, hX⟩ : ∃ X, X = txtG (mtT ys) ys.length := ⟨_, rfl⟩
    rw [← hX] at HT2 ⊢
    clear h1 HT hX
    go_enter Tryd.func5, Tryd.ntmps5
    go_wp2_with fail
    refine HV.out.mono ?_
    rintro e w1 ⟨rfl, hB⟩
    have B1 := Lib.hid hB
    clear hB
    go_wp2_with fail
    refine (HT2.out _ (HY.out.below B1.out)).mono ?_
    rintro e w2 ⟨rfl, hB⟩
    have B2 := Lib.hid (B1.out.trans (hB.mono B1.out.size))
    clear hB
    go_wp2_with fail
    go_ret
    exact ⟨rfl, B2.out⟩
end Go.Proofs.YtajaiahfoknkcaaDoor
