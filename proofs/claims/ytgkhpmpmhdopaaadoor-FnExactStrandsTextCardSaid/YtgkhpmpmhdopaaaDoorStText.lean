/-
  No statement is proved here: the text of strands in the document's own text; condition: at most 1048576 strands.
-/
import Derived.Test.YtgkhpmpmhdopaaaDoorTextG
import Derived.Test.YtgkhpmpmhdopaaaDoorDecimal
import Derived.Test.YtgkhpmpmhdopaaaDoorSnOk
namespace Go.Proofs.YtgkhpmpmhdopaaaDoor
open Go.ChangeShapes Go.WideShapes Go.ChangeAt Go.RowKit

/-- The text of one strand, and of strands that may have one. -/
def dg (z : Int) : List UInt8 := Lib.decDigits z.toNat
def stT (ss : List Sn) (k : Nat) : List UInt8 := (dg (sat ss k).1 ++ [64]) ++ dg (sat ss k).2
def okT (ss : List Sn) : Bool := allS ss && decide (ss.length ≤ 8)
def stTextF (ss : List Sn) : List UInt8 := if okT ss = true then txtG (stT ss) ss.length else []
theorem okT_of {ss : List Sn} (h : okT ss = true) : allS ss = true ∧ ss.length ≤ 8 := by
  unfold okT at h
  rw [Bool.and_eq_true] at h
  exact ⟨h.1, of_decide_eq_true h.2⟩
theorem okS_of' {s : Sn} (h : okS s = true) : (1 ≤ s.1 ∧ s.1 ≤ 2000) ∧ s.2 < 6 := okS_of (a := s.1) (d := s.2) h
theorem dg_len {z : Int} (h : z ≤ 1000000) : (dg z).length ≤ 20 := dec_short _ (by omega)
theorem stT_len {ss : List Sn} (h : allS ss = true) (k : Nat) : (stT ss k).length ≤ 99 := by
  have h1 : (sat ss k).1 ≤ 1000000 ∧ (sat ss k).2 ≤ 1000000 := by
    by_cases hk : k < ss.length
    · have := okS_of' (allS_get h k hk)
      omega
    · rw [sat, List.getD, List.getElem?_eq_none (by omega)]
      simp
  have h2 := dg_len h1.1
  have h3 := dg_len h1.2
  unfold stT
  simp
  omega

/-- Two cells of a block below B, and what lies there, are as they were. -/
structure Two (w W : World) (b o1 o2 : Nat) (u v : Value) : Prop where
  one : W.cell? ⟨b, o1, none⟩ = some u
  two : W.cell? ⟨b, o2, none⟩ = some v
  bel : Below w.heap.size w W
theorem Two.below {w W W' : World} {b o1 o2 : Nat} {u v : Value} (h : Two w W b o1 o2 u v) (hB : Below W.heap.size W W') : Two w W' b o1 o2 u v :=
  ⟨(hB.cell (p := ⟨b, o1, none⟩) (World.block_lt_of_cell? W _ h.one)).trans h.one, (hB.cell (p := ⟨b, o2, none⟩) (World.block_lt_of_cell? W _ h.two)).trans h.two, h.bel.trans (hB.mono h.bel.size)⟩
theorem Two.drew {w W : World} {b o1 o2 : Nat} {u v : Value} (h : Two w W b o1 o2 u v) : Two w W.drew b o1 o2 u v := ⟨h.one, h.two, h.bel.drew⟩

set_option maxRecDepth 100000 in
set_option maxHeartbeats 4000000 in
theorem l04Text_any (v : Value) (ss : List Sn) (w : World) (h : Strands w v ss) (hok : okT ss = true) :
    Calls Tryd.prog 10 #[v] w fun e w' => e = .returned (.string ⟨(txtG (stT ss) ss.length).toArray⟩) ∧ Below w.heap.size w w' := by
  obtain ⟨hal, hl8⟩ := okT_of hok
  by_cases h0 : ss.length = 0
  · have hx : ss = [] := List.length_eq_zero_iff.1 h0
    subst hx
    obtain ⟨a, cap, rfl⟩ := h.nil
    go_enter Tryd.func10, Tryd.ntmps10
    go_wp2
    go_rounds 1
    go_ret
    exact ⟨rfl, Below.refl _ _⟩
  · obtain ⟨b, off, cap, rfl, hb, hc⟩ := h.pos (by omega)
    have HK := Lib.hid fun k hk => okS_of' (allS_get hal k hk)
    have H16 := Lib.hid h.1
    have HLn := Lib.hid (txtG_len (stT_len hal))
    have HSt := Lib.hid (show ∀ k, stT ss k = (dg (sat ss k).1 ++ [64]) ++ dg (sat ss k).2 from fun k => rfl)
    have HOne := Lib.hid (txtG_one (stT ss))
    have HStep := Lib.hid (txtG_step (stT ss))
    obtain ⟨n, hln⟩ : ∃ n, n = ss.length := ⟨_, rfl⟩
    rw [← hln] at hc hl8 h0 HK ⊢
    have HC := Lib.hid hc
    clear hc hln h hal hok
    obtain ⟨T, hT⟩ : ∃ T : Nat → List UInt8, T = txtG (stT ss) := ⟨_, rfl⟩
    rw [← hT] at HLn HOne HStep ⊢
    have HT0 := Lib.hid (show T 0 = [] by rw [hT]; rfl)
    clear hT
    have hst : (Value.string ⟨#[]⟩) = .string ⟨(T 0).toArray⟩ := by rw [HT0.out]
    have HST := Lib.hid hst
    clear hst
    go_enter Tryd.func10, Tryd.ntmps10
    go_wp2_with fail
    go_loopw [3, 4] (fun s i wr => ∃ k : Nat, k ≤ n ∧ i = .int .i64 k ∧ s = .string ⟨(T k).toArray⟩ ∧ Hid (Below w.heap.size w wr)) (fun _ i _ => n - (intOf i).toNat)
    case atStart => exact ⟨0, Nat.zero_le _, rfl, HST.out, Below.refl _ _⟩
    case round =>
      obtain ⟨k, hk, rfl, rfl, hE⟩ := hrel
      by_cases hlt : k < n
      · have hki : (k : Int) < (n : Int) := by omega
        obtain ⟨p1, p2⟩ := HC.out k hlt
        have hkk := HK.out k hlt
        have hstk := HSt.out k
        have h16 := H16.out k
        have hone := HOne.out
        have hstep := HStep.out k
        obtain ⟨y, hy⟩ : ∃ y, y = sat ss k := ⟨_, rfl⟩
        rw [← hy] at p1 p2 hkk hstk h16
        obtain ⟨y0, y1⟩ := y
        simp only at p1 p2 hkk hstk h16
        obtain ⟨⟨a1, a2⟩, a3⟩ := hkk
        obtain ⟨qa, rfl⟩ : ∃ qa : Nat, y0 = (qa : Int) := ⟨y0.toNat, by omega⟩
        obtain ⟨qb, rfl⟩ : ∃ qb : Nat, y1 = (qb : Int) := ⟨y1.toNat, by have := h16.2.1; simp only at this; omega⟩
        have c1 := (hE.out.cell (p := ⟨b, off + k * 2, none⟩) hb).trans p1
        have c2 := (hE.out.cell (p := ⟨b, off + k * 2 + 1, none⟩) hb).trans p2
        have w1 : ∀ [Inhabited Nat], IntKind.i64.wrap (qa : Int) = (qa : Int) := by intro _; exact (IntWalk.i64_in _ (by omega)).trans (by omega)
        have w2 : ∀ [Inhabited Nat], IntKind.i64.wrap (qb : Int) = (qb : Int) := by intro _; exact (IntWalk.i64_in _ (by omega)).trans (by omega)
        have hA := Lib.hid (decimal_any qa (by omega))
        have hB0 := Lib.hid (decimal_any qb (by omega))
        have la : (Lib.decDigits qa).length ≤ 20 := dec_short _ (by omega)
        have lb : (Lib.decDigits qb).length ≤ 20 := dec_short _ (by omega)
        have hstk2 : stT ss k = (Lib.decDigits qa ++ [64]) ++ Lib.decDigits qb := hstk
        have lT := HLn.out k
        obtain ⟨Y, hY⟩ : ∃ Y, Y = Lib.decDigits qa := ⟨_, rfl⟩
        obtain ⟨Z, hZ⟩ : ∃ Z, Z = Lib.decDigits qb := ⟨_, rfl⟩
        rw [← hY, ← hZ] at hstk2
        rw [← hY] at hA la
        rw [← hZ] at hB0 lb
        have hadd1 : ∀ wx : World, (Op.stringOp .add ⟨Y.toArray⟩ ⟨#[64]⟩).run Tryd.prog wx = .ok (.string ⟨(Y ++ [64]).toArray⟩) wx := fun wx => add_lists _ [64] (by omega) (by simp) wx
        have hadd2 : ∀ wx : World, (Op.stringOp .add ⟨(Y ++ [64]).toArray⟩ ⟨Z.toArray⟩).run Tryd.prog wx = .ok (.string ⟨((Y ++ [64]) ++ Z).toArray⟩) wx := fun wx => add_lists _ _ (by simp; omega) (by omega) wx
        clear hy hY hZ hstk p1 p2 h16 a1 a2 a3
        by_cases h0 : k = 0
        · have hst : T (k + 1) = T k ++ ((Y ++ [64]) ++ Z) := by rw [h0, hone, ← hstk2, h0, HT0.out]; rfl
          have hadd3 : ∀ wx : World, (Op.stringOp .add ⟨(T k).toArray⟩ ⟨((Y ++ [64]) ++ Z).toArray⟩).run Tryd.prog wx = .ok (.string ⟨(T (k + 1)).toArray⟩) wx := fun wx => by
            rw [hst]
            exact add_lists _ _ (by omega) (by simp; omega) wx
          have h0' : (k : Int) ≤ 0 := by omega
          clear hst hone hstep hstk2 h0
          obtain ⟨X, hX⟩ : ∃ X, X = T k := ⟨_, rfl⟩
          obtain ⟨Y1, hY1⟩ : ∃ Y1, Y1 = Y ++ [64] := ⟨_, rfl⟩
          obtain ⟨Y2, hY2⟩ : ∃ Y2, Y2 = (Y ++ [64]) ++ Z := ⟨_, rfl⟩
          obtain ⟨X2, hX2⟩ : ∃ X2, X2 = T (k + 1) := ⟨_, rfl⟩
          have HZ := Lib.hid hX2
          rw [← hY2, ← hY1] at hadd2
          rw [← hY1] at hadd1
          rw [← hX, ← hY2, ← hX2] at hadd3
          rw [← hX]
          clear hX hX2 hY1 hY2 lT la lb
          have KK : Two w wr.drew b (off + k * 2) (off + k * 2 + 1) (.int .i16 (qa : Int)) (.int .u8 (qb : Int)) := ⟨c1, c2, hE.out.drew⟩
          go_wp2_with fail
          go_region_with (first
            | (go_at_call_of 17 (Value.int .i64 (qa : Int)); refine (hA.out _).mono ?_; rintro e w' ⟨rfl, hB⟩; have KN := Two.below (by assumption) hB; have d1 := KN.one; have d2 := KN.two; clear hB)
            | (go_at_call_of 17 (Value.int .i64 (qb : Int)); refine (hB0.out _).mono ?_; rintro e w' ⟨rfl, hB⟩; have KN := Two.below (by assumption) hB; have d1 := KN.one; have d2 := KN.two; clear hB))
          all_goals
            have EE := Lib.hid KN.bel
            clear KK
            go_wp2_with fail
            go_roundw
            case rel => exact ⟨k + 1, by omega, by go_num, by rw [HZ.out], EE⟩
            case measure => simp [intOf]; omega
        · have hst : T (k + 1) = (T k ++ [32]) ++ ((Y ++ [64]) ++ Z) := by rw [hstep (by omega), hstk2]
          have hadd0 : ∀ wx : World, (Op.stringOp .add ⟨(T k).toArray⟩ ⟨#[32]⟩).run Tryd.prog wx = .ok (.string ⟨(T k ++ [32]).toArray⟩) wx := fun wx => add_lists _ [32] (by omega) (by simp) wx
          have hadd3 : ∀ wx : World, (Op.stringOp .add ⟨(T k ++ [32]).toArray⟩ ⟨((Y ++ [64]) ++ Z).toArray⟩).run Tryd.prog wx = .ok (.string ⟨(T (k + 1)).toArray⟩) wx := fun wx => by
            rw [hst]
            exact add_lists _ _ (by simp; omega) (by simp; omega) wx
          have h0' : (0 : Int) < (k : Int) := by omega
          have h0'' : 0 < k := by omega
          clear hst hone hstep hstk2 h0
          obtain ⟨X, hX⟩ : ∃ X, X = T k := ⟨_, rfl⟩
          obtain ⟨X1, hX1⟩ : ∃ X1, X1 = T k ++ [32] := ⟨_, rfl⟩
          obtain ⟨Y1, hY1⟩ : ∃ Y1, Y1 = Y ++ [64] := ⟨_, rfl⟩
          obtain ⟨Y2, hY2⟩ : ∃ Y2, Y2 = (Y ++ [64]) ++ Z := ⟨_, rfl⟩
          obtain ⟨X2, hX2⟩ : ∃ X2, X2 = T (k + 1) := ⟨_, rfl⟩
          have HZ := Lib.hid hX2
          rw [← hY2, ← hY1] at hadd2
          rw [← hY1] at hadd1
          rw [← hX1, ← hX] at hadd0
          rw [← hX1, ← hY2, ← hX2] at hadd3
          rw [← hX]
          clear hX hX1 hX2 hY1 hY2 lT la lb
          have KK : Two w wr.drew b (off + k * 2) (off + k * 2 + 1) (.int .i16 (qa : Int)) (.int .u8 (qb : Int)) := ⟨c1, c2, hE.out.drew⟩
          go_wp2_with fail
          go_region_with (first
            | (go_at_call_of 17 (Value.int .i64 (qa : Int)); refine (hA.out _).mono ?_; rintro e w' ⟨rfl, hB⟩; have KN := Two.below (by assumption) hB; have d1 := KN.one; have d2 := KN.two; clear hB)
            | (go_at_call_of 17 (Value.int .i64 (qb : Int)); refine (hB0.out _).mono ?_; rintro e w' ⟨rfl, hB⟩; have KN := Two.below (by assumption) hB; have d1 := KN.one; have d2 := KN.two; clear hB))
          all_goals
            have EE := Lib.hid KN.bel
            clear KK
            go_wp2_with fail
            go_roundw
            case rel => exact ⟨k + 1, by omega, by go_num, by rw [HZ.out], EE⟩
            case measure => simp [intOf]; omega
      · have hkn : k = n := by omega
        subst hkn
        go_wp2_with fail
        go_ret
        exact ⟨rfl, hE.out⟩

set_option maxRecDepth 100000 in
set_option maxHeartbeats 2000000 in
theorem specStText_any (v : Value) (ss : List Sn) (w : World) (h : Strands w v ss) (hn : ss.length ≤ 1048576) :
    Calls Tryd.prog 5 #[v] w fun e w' => e = .returned (.string ⟨(stTextF ss).toArray⟩) ∧ Below w.heap.size w w' := by
  have HV := Lib.hid (l04Strands_any v ss w h hn)
  have HT := Lib.hid fun hok => l04Text_any v ss w h hok
  obtain ⟨a0, c0, rfl⟩ := h.len
  clear h
  cases h1 : allS ss with
  | false =>
    rw [show stTextF ss = [] by unfold stTextF okT; rw [h1]; rfl]
    rw [h1] at HV
    clear h1 HT
    generalize ss.length = n at *
    go_enter Tryd.func5, Tryd.ntmps5
    go_wp2_with fail
    refine HV.out.mono ?_
    rintro e w' ⟨rfl, rfl⟩
    go_wp2_with fail
    go_ret
    exact ⟨rfl, Below.refl _ _⟩
  | true =>
    rw [h1] at HV
    by_cases h2 : ss.length ≤ 8
    · have hok : okT ss = true := by unfold okT; rw [h1]; simpa using h2
      rw [show stTextF ss = txtG (stT ss) ss.length from if_pos hok]
      have HT := Lib.hid (HT.out hok)
      clear h1 hok
      obtain ⟨X, hX⟩ : ∃ X, X = txtG (stT ss) ss.length := ⟨_, rfl⟩
      rw [← hX] at HT ⊢
      clear hX
      generalize ss.length = n at *
      go_enter Tryd.func5, Tryd.ntmps5
      go_wp2_with fail
      refine HV.out.mono ?_
      rintro e w' ⟨rfl, rfl⟩
      go_wp2_with fail
      refine HT.out.mono ?_
      rintro e w' ⟨rfl, hB⟩
      go_wp2_with fail
      go_ret
      exact ⟨rfl, hB⟩
    · rw [show stTextF ss = [] by unfold stTextF okT; rw [show decide (ss.length ≤ 8) = false by simp; omega]; simp]
      have h3 : 8 < ss.length := by omega
      clear h1 HT
      generalize ss.length = n at *
      go_enter Tryd.func5, Tryd.ntmps5
      go_wp2_with fail
      refine HV.out.mono ?_
      rintro e w' ⟨rfl, rfl⟩
      go_wp2_with fail
      go_ret
      exact ⟨rfl, Below.refl _ _⟩
end Go.Proofs.YtgkhpmpmhdopaaaDoor
