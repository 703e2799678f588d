/-
  No statement is proved here: ShapeRow, as the program and as the document's own text tell it; condition: the program's errors lie where its text lays them.
-/
import Derived.Test.YtfohacleojimeaaDoorShpS
import Derived.Test.YtfohacleojimeaaDoorShpI
namespace Go.Proofs.YtfohacleojimeaaDoor
open Go.ChangeShapes Go.WideShapes Go.ChangeAt Go.RowKit

theorem rowF_code (f t : Int) : (rowF f t).2 = 0 ∨ (rowF f t = (ByteArray.empty, 6)) := by
  unfold rowF
  split
  · exact .inr rfl
  · exact .inl rfl

set_option maxRecDepth 100000 in
set_option maxHeartbeats 2000000 in
theorem specShapeRow_any (f t : Int) (w : World) :
    Calls Tryd.prog 5 #[.int .i64 f, .int .i64 t] w fun e w' => e = .returned (.tuple #[.string (shapeF f t).1, .int .i64 (shapeF f t).2]) ∧ Below w.heap.size w w' := by
  have H1 := Lib.hid fun wx => castS_any f wx
  have H2 := Lib.hid fun wx => castS_any t wx
  cases h1 : inB f 1 60 with
  | false =>
    rw [shapeF_no (by rw [h1]; rfl)]
    rw [h1] at H1
    go_enter Tryd.func5, Tryd.ntmps5
    go_wp2_with fail
    refine (H1.out _).mono ?_
    rintro e w' ⟨rfl, rfl⟩
    go_wp2
    go_ret2
    exact ⟨rfl, Below.refl _ _⟩
  | true =>
    cases h2 : inB t 1 60 with
    | false =>
      rw [shapeF_no (by rw [h2]; simp)]
      rw [h1] at H1
      rw [h2] at H2
      go_enter Tryd.func5, Tryd.ntmps5
      go_wp2_with fail
      refine (H1.out _).mono ?_
      rintro e w' ⟨rfl, rfl⟩
      go_wp2_with fail
      refine (H2.out _).mono ?_
      rintro e w' ⟨rfl, rfl⟩
      go_wp2
      go_ret2
      exact ⟨rfl, Below.refl _ _⟩
    | true =>
      rw [shapeF_yes (by rw [h1, h2]; rfl)]
      rw [h1] at H1
      rw [h2] at H2
      obtain ⟨f1, f2⟩ := inB_of h1
      obtain ⟨t1, t2⟩ := inB_of h2
      have HC := Lib.hid fun wx => specShape_any f t f1 f2 t1 t2 wx
      clear h1 h2 f1 f2 t1 t2
      rcases rowF_code f t with hr | hr
      · have hd : decide ((rowF f t).2 = 0) = true := by rw [hr]; rfl
        rw [hd] at HC
        rw [hr]
        clear hr hd
        generalize (rowF f t).1 = tx at *
        go_enter Tryd.func5, Tryd.ntmps5
        go_wp2_with fail
        refine (H1.out _).mono ?_
        rintro e w' ⟨rfl, rfl⟩
        go_wp2_with fail
        refine (H2.out _).mono ?_
        rintro e w' ⟨rfl, rfl⟩
        go_wp2_with fail
        refine (HC.out _).mono ?_
        rintro e w' ⟨rfl, hB⟩
        have B1 := Lib.hid hB
        clear hB
        go_wp2
        go_ret2
        exact ⟨rfl, B1.out⟩
      · rw [hr] at HC ⊢
        rw [show decide ((ByteArray.empty, (6 : Int)).2 = 0) = false from rfl] at HC
        clear hr
        go_enter Tryd.func5, Tryd.ntmps5
        go_wp2_with fail
        refine (H1.out _).mono ?_
        rintro e w' ⟨rfl, rfl⟩
        go_wp2_with fail
        refine (H2.out _).mono ?_
        rintro e w' ⟨rfl, rfl⟩
        go_wp2_with fail
        refine (HC.out _).mono ?_
        rintro e w' ⟨rfl, hB⟩
        have B1 := Lib.hid hB
        clear hB
        go_wp2
        go_ret2
        exact ⟨rfl, B1.out⟩

set_option maxRecDepth 100000 in
set_option maxHeartbeats 2000000 in
theorem implShapeRow_any (p : Nat → Addr) (f t : Int) (w : World) (hs : Sent w p) :
    Calls Tryd.prog 6 #[.int .i64 f, .int .i64 t] w fun e w' => e = .returned (.tuple #[.string (shapeF f t).1, .int .i64 (shapeF f t).2]) ∧ Below w.heap.size w w' := by
  have HS := Lib.hid hs
  have q1 := neqNil_err
  have q2 := neqNil_nil
  clear hs
  have C := Lib.hid fun b cap wx h h0 h1 => check2_any p b cap f 1 60 t 1 60 wx h h0 h1
  cases h : (inB f 1 60 && inB t 1 60) with
  | false =>
    rw [shapeF_no h]
    rw [h, errIn_no] at C
    have HC := Lib.hid fun wx hx => codeOf_err (p := p) 1 (by omega) wx hx
    clear h
    go_enter Tryd.func6, Tryd.ntmps6
    go_wp2_with fail
    refine (C.out _ _ _ (HS.out.below ((Below.refl _ _).alloc (Nat.le_refl _) _)) (by simp [go_sem]) (by simp [go_sem])).mono ?_
    rintro e w2 ⟨rfl, hB⟩
    have B2 := Lib.hid (((Below.refl w.heap.size w).alloc (Nat.le_refl _) _).trans (hB.mono (by simp)))
    clear hB
    go_wp2_with fail
    refine (HC.out _ (HS.out.below B2.out)).mono ?_
    rintro e w' ⟨rfl, rfl⟩
    go_wp2
    go_ret2
    exact ⟨rfl, B2.out⟩
  | true =>
    rw [shapeF_yes h]
    rw [h, errIn_yes] at C
    rw [Bool.and_eq_true] at h
    obtain ⟨f1, f2⟩ := inB_of h.1
    obtain ⟨t1, t2⟩ := inB_of h.2
    have HC := Lib.hid fun wx => implShape_any f t f1 f2 t1 t2 wx
    clear h f1 f2 t1 t2
    generalize (rowF f t).1 = tx at *
    generalize (rowF f t).2 = cd at *
    go_enter Tryd.func6, Tryd.ntmps6
    go_wp2_with fail
    refine (C.out _ _ _ (HS.out.below ((Below.refl _ _).alloc (Nat.le_refl _) _)) (by simp [go_sem]) (by simp [go_sem])).mono ?_
    rintro e w2 ⟨rfl, hB⟩
    have B2 := Lib.hid (((Below.refl w.heap.size w).alloc (Nat.le_refl _) _).trans (hB.mono (by simp)))
    clear hB
    go_wp2_with fail
    refine (HC.out _).mono ?_
    rintro e w3 ⟨rfl, hB⟩
    have B3 := Lib.hid (B2.out.trans (hB.mono B2.out.size))
    clear hB
    go_wp2
    go_ret2
    exact ⟨rfl, B3.out⟩
end Go.Proofs.YtfohacleojimeaaDoor
