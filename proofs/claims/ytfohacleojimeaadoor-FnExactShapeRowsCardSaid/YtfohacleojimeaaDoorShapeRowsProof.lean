/-
  Proved here: FnExactShapeRowsCardSaid: the law on ShapeRows answers true for all arguments, where the listed errors of the package hold what the program's text lays (the card ties that to the text); no other condition.
-/
import Derived.Test.YtfohacleojimeaaDoorShapeRowsWalk
import Derived.Test.YtfohacleojimeaaDoorSentLaid
import Derived.Test.YtfohacleojimeaaDoorClosed

namespace Go.Proofs.YtfohacleojimeaaDoor
open Go.ChangeShapes Go.WideShapes Go.ChangeAt Go.RowKit
set_option linter.unusedVariables false

set_option maxRecDepth 100000 in
theorem shapeRows_contract (H : Type) (enc : TypeId × Value → H) (W : World) (base : Nat) (args : Array Value) (ds gs : List (DataW H)) (before : List MemPlace)
    (hval : ∀ (j : Nat) t v, Tryd.f4.params[j]? = some t → args[j]? = some v → Value.okWide Tryd.prog W .any base t v)
    (hW : DataW.Whole enc Tryd.prog Tryd.f4.params.toList Rows.fnExactShapeRowsSpec.vars false W args.toList ds gs before) (hL : laidMetH Tryd.prog Rows.fnExactShapeRowsRow.laid W) :
    Calls Tryd.prog 4 args W fun e W' => ∃ v, e = .returned v ∧ Rows.fnExactShapeRowsSpec.post enc Tryd.prog Tryd.f4 false true false false W args v W' := by
  have hW' := hW
  obtain ⟨p, q, hA0, hV0, rfl, hfz, hnd⟩ := hW
  have hA : DataW.TrodAll enc Tryd.prog W 0 (fun _ => true) true Tryd.f4.params.toList args.toList ds p := hA0
  have hV : DataW.TrodVars enc Tryd.prog W (fun _ => true) ["loop.example/g01384/impl.errOutOfRange", "loop.example/g01384/impl.errTooMany", "loop.example/g01384/impl.errNotValid", "loop.example/g01384/impl.errNoPlies", "loop.example/g01384/impl.errNoYarn", "loop.example/g01384/impl.errNothingLeft"] gs q := hV0
  have hLL : laidMet Tryd.prog [("loop.example/g01384/impl.errNotValid", Rows.laid_loop_example_g01384_impl_errNotValid), ("loop.example/g01384/impl.errOutOfRange", Rows.laid_loop_example_g01384_impl_errOutOfRange), ("loop.example/g01384/impl.errTooMany", Rows.laid_loop_example_g01384_impl_errTooMany), ("loop.example/g01384/impl.errNoPlies", Rows.laid_loop_example_g01384_impl_errNoPlies), ("loop.example/g01384/impl.errNothingLeft", Rows.laid_loop_example_g01384_impl_errNothingLeft), ("loop.example/g01384/impl.errNoYarn", Rows.laid_loop_example_g01384_impl_errNoYarn)] W := hL
  obtain ⟨pp, hs⟩ := sent_laid hLL
  rw [Tryd.params4] at hA hval
  obtain ⟨v0, vs0, d0, ds0, p0, q0, hargs, rfl, rfl, k0, r0⟩ := trodAll_cons hA
  obtain ⟨v1, vs1, d1, ds1, p1, q1, rfl, rfl, rfl, k1, r1⟩ := trodAll_cons r0
  obtain ⟨v2, vs2, d2, ds2, p2, q2, rfl, rfl, rfl, k2, r2⟩ := trodAll_cons r1
  obtain ⟨rfl, rfl, rfl⟩ := trodAll_nil r2
  obtain rfl : args = #[v0, v1, v2] := by cases args; simp_all
  have lt0 : ∀ x ∈ p0, x.block < W.heap.size := by obtain ⟨m, hm⟩ := k0; exact DataW.trod_lt m _ _ _ hm
  have lt1 : ∀ x ∈ p1, x.block < W.heap.size := by obtain ⟨m, hm⟩ := k1; exact DataW.trod_lt m _ _ _ hm
  have lt2 : ∀ x ∈ p2, x.block < W.heap.size := by obtain ⟨m, hm⟩ := k2; exact DataW.trod_lt m _ _ _ hm
  refine (shapeRows_walk (enc := enc) W base v0 d0 p0 (hval 0 2 v0 rfl rfl) k0 v1 d1 p1 (hval 1 2 v1 rfl rfl) k1 v2 d2 p2 (hval 2 2 v2 rfl rfl) k2 pp hs).mono fun e W' ⟨he, bel⟩ => ?_
  subst he
  obtain ⟨g0, g1, g2, g3, g4, g5, rfl⟩ : ∃ g0 g1 g2 g3 g4 g5, gs = [g0, g1, g2, g3, g4, g5] := by
    have hlen := lenVars _ _ _ hV
    match gs, hlen with
    | [g0, g1, g2, g3, g4, g5], _ => exact ⟨g0, g1, g2, g3, g4, g5, rfl⟩
  exact ⟨_, rfl, _, _, _, [], _, _, hW', trodAll_mk1 (shut_bool Tryd.underlying4 _), (trodAll_cons_mk (Below.trod laidAll (by kernel_rfl) (of_decide_eq_true (by kernel_rfl)) k0 bel lt0) (trodAll_cons_mk (Below.trod laidAll (by kernel_rfl) (of_decide_eq_true (by kernel_rfl)) k1 bel lt1) (trodAll_cons_mk (Below.trod laidAll (by kernel_rfl) (of_decide_eq_true (by kernel_rfl)) k2 bel lt2) trodAll_mk0))), Below.trodVars laidAll bel (by kernel_rfl) hV, bel.frame _, fun h => by cases h⟩

theorem laid_met (os : Os) : laidMet Tryd.prog Rows.fnExactShapeRowsRow.laid ((laidWorld os).forCall (fun _ _ => 0) ⟨#[], #[.int .i64 0, .int .i64 0, .int .i64 0], []⟩).memory :=
  laidMet_of_run' 8 (by kernel_rfl) (by kernel_rfl)
theorem laid_reads (os : Os) {H : Type} (enc : TypeId × Value → H) : ∃ gs places, DataW.whole enc Tryd.prog ((laidWorld os).forCall (fun _ _ => 0) ⟨#[], #[.int .i64 0, .int .i64 0, .int .i64 0], []⟩).memory Tryd.f4.params.toList Rows.fnExactShapeRowsSpec.vars false #[Value.int .i64 0, Value.int .i64 0, Value.int .i64 0].toList 8 = some ([.lit (.int .i64 0), .lit (.int .i64 0), .lit (.int .i64 0)], gs, places) := by
  have h : (DataW.whole enc Tryd.prog ((laidWorld os).forCall (fun _ _ => 0) ⟨#[], #[.int .i64 0, .int .i64 0, .int .i64 0], []⟩).memory Tryd.f4.params.toList Rows.fnExactShapeRowsSpec.vars false #[Value.int .i64 0, Value.int .i64 0, Value.int .i64 0].toList 8).map (·.1) = some [.lit (.int .i64 0), .lit (.int .i64 0), .lit (.int .i64 0)] := by kernel_rfl
  obtain ⟨⟨ds, gs, places⟩, h1, h2⟩ := Option.map_eq_some_iff.1 h
  obtain rfl : ds = _ := h2
  exact ⟨gs, places, h1⟩

set_option maxRecDepth 100000 in
theorem shapeRows_lifted (os : Os) (started : os.Started) (H : Type) (enc : TypeId × Value → H) (F : Stop.Interp) :
    ReturnsInHanded {} Tryd.checked os 4 .any ((OpenSpec.ofChange Rows.fnExactShapeRowsSpec).preRow enc Tryd.prog Tryd.f4 Rows.fnExactShapeRowsRow.domain false Rows.fnExactShapeRowsRow.laid) (((OpenSpec.ofChange Rows.fnExactShapeRowsSpec).at F).post enc Tryd.prog Tryd.f4 false true false false) := by
  obtain ⟨gs, places, hx⟩ := laid_reads os enc
  refine returnsInHanded_of_row (C := Tryd.checked) (s := OpenSpec.ofChange Rows.fnExactShapeRowsSpec) ownNone started (by kernel_rfl) Tryd.func4
    (witness_row_at (enc := enc) (C := Tryd.checked) false (laidWorld os) #[.int .i64 0, .int .i64 0, .int .i64 0] rfl (by kernel_rfl) (by kernel_rfl) (by kernel_rfl)
      (OpenSpec.preRow_of_cond 8 hx (by kernel_rfl) (fun k hk => by cases hk) (by kernel_rfl) (laid_met os))) ?_
  intro W base args ds gs before hval hW _ _ _ hL _ _
  exact shapeRows_contract H enc W base args ds gs before hval hW hL

theorem shapeRows_l1 : (Rows.fnExactShapeRowsRow.lifted == Tryd.pinned.checked.prog.liftsFinal) = true := lifts_end
theorem shapeRows_l2 : (Tryd.pinned.checked.prog.make == some Rows.fnExactShapeRowsRow.make) = true := make_end
set_option maxRecDepth 100000 in
set_option maxHeartbeats 8000000 in
theorem shapeRows_closed : joinedFacts Tryd.pinned.checked.prog 4 Tryd.f4 (OpenSpec.ofChange Rows.fnExactShapeRowsSpec).bare Rows.fnExactShapeRowsRow = true := by
  unfold joinedFacts
  repeat' (with_reducible refine and_mk ?_ ?_)
  all_goals first | (with_reducible exact may_enter) | (with_reducible exact shapeRows_l1) | (with_reducible exact shapeRows_l2) | (as_aux_lemma => kernel_rfl)

theorem shapeRows_said : Rows.FnExactShapeRowsSaid :=
  OpenClaim.holds_of_cond 4 Tryd.f4 rfl rfl rfl rfl rfl rfl rfl ⟨rfl, rfl, rfl, rfl, rfl⟩ rfl rfl rfl rfl rfl (by kernel_rfl) Tryd.func4 shapeRows_closed
    (of_decide_eq_true (by kernel_rfl)) (by unfold Func.isWrapper; first | (rw [if_pos (by decide +kernel)]; kernel_rfl) | (rw [if_neg (by decide +kernel)]; exact ⟨rfl, rfl⟩))
    (fun os started H enc _ F => by rw [OpenClaim.pre_eq_preRow]; exact shapeRows_lifted os started H enc F)

theorem shapeRows_plain (f : FuncId) (fn : Func) (hf : Tryd.pinned.checked.prog.funcNamed "loop.example/g01384/laws.FnExactShapeRows" = some f) (hfn : Tryd.pinned.checked.prog.funcs[f]? = some fn) :
    true = Tryd.pinned.checked.prog.looks [] ∧ ∀ (j : Nat) t, fn.params[j]? = some t → Tryd.pinned.checked.prog.wantsStandIn t = false := by
  obtain rfl : f = 4 := Option.some.inj ((show Tryd.prog.funcNamed "loop.example/g01384/laws.FnExactShapeRows" = some 4 by kernel_rfl).symm.trans hf) |>.symm
  obtain rfl : fn = Tryd.f4 := (Option.some.inj (Tryd.func4.symm.trans hfn)).symm
  refine ⟨by kernel_rfl, fun j t ht => ?_⟩
  rw [Tryd.params4] at ht
  have ht2 : t = 2 := by simpa using Array.mem_of_getElem? ht
  rcases ht2 with rfl
  · exact (show Tryd.prog.wantsStandIn 2 = false by kernel_rfl)

/-- The card. -/
theorem shapeRows_holds : Rows.FnExactShapeRowsCardSaid :=
  Claim7.holds_tied_plain_at .later [] _ _ _ _ shapeRows_said (fun _ h => by cases h) (by kernel_rfl) (fun _ h => by cases h) fnExactShapeRows_row_tie rfl ⟨rfl, rfl⟩ (by kernel_rfl) rfl shapeRows_plain (by kernel_rfl)
#print axioms shapeRows_holds
end Go.Proofs.YtfohacleojimeaaDoor
