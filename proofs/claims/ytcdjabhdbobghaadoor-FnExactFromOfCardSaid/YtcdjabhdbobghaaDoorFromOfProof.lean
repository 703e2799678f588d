/-
  Proved here: FnExactFromOfCardSaid: the law on FromOf answers true for all arguments, where the listed errors of the package hold what the program's text lays (the card ties that to the text); no other condition.
-/
import Derived.Test.YtcdjabhdbobghaaDoorFromOfWalk
import Derived.Test.YtcdjabhdbobghaaDoorSentLaid
import Derived.Test.YtcdjabhdbobghaaDoorClosed

namespace Go.Proofs.YtcdjabhdbobghaaDoor
open Go.ChangeShapes Go.WideShapes Go.ChangeAt Go.RowKit
set_option linter.unusedVariables false

set_option maxRecDepth 100000 in
theorem fromOf_contract (H : Type) (enc : TypeId × Value → H) (W : World) (base : Nat) (args : Array Value) (ds gs : List (DataW H)) (before : List MemPlace)
    (hval : ∀ (j : Nat) t v, Tryd.f4.params[j]? = some t → args[j]? = some v → Value.okWide Tryd.prog W .any base t v)
    (hW : DataW.Whole enc Tryd.prog Tryd.f4.params.toList Rows.fnExactFromOfSpec.vars false W args.toList ds gs before) (hL : laidMetH Tryd.prog Rows.fnExactFromOfRow.laid W) :
    Calls Tryd.prog 4 args W fun e W' => ∃ v, e = .returned v ∧ Rows.fnExactFromOfSpec.post enc Tryd.prog Tryd.f4 false true false false W args v W' := by
  have hW' := hW
  obtain ⟨p, q, hA0, hV0, rfl, hfz, hnd⟩ := hW
  have hA : DataW.TrodAll enc Tryd.prog W 0 (fun _ => true) true Tryd.f4.params.toList args.toList ds p := hA0
  have hV : DataW.TrodVars enc Tryd.prog W (fun _ => true) ["loop.example/g01384/impl.errOutOfRange", "loop.example/g01384/impl.errTooMany", "loop.example/g01384/impl.errNotValid", "loop.example/g01384/impl.errNoPlies", "loop.example/g01384/impl.errNoYarn", "loop.example/g01384/impl.errNothingLeft"] gs q := hV0
  have hLL : laidMet Tryd.prog [("loop.example/g01384/impl.errNotValid", Rows.laid_loop_example_g01384_impl_errNotValid), ("loop.example/g01384/impl.errOutOfRange", Rows.laid_loop_example_g01384_impl_errOutOfRange), ("loop.example/g01384/impl.errTooMany", Rows.laid_loop_example_g01384_impl_errTooMany), ("loop.example/g01384/impl.errNoPlies", Rows.laid_loop_example_g01384_impl_errNoPlies), ("loop.example/g01384/impl.errNothingLeft", Rows.laid_loop_example_g01384_impl_errNothingLeft), ("loop.example/g01384/impl.errNoYarn", Rows.laid_loop_example_g01384_impl_errNoYarn)] W := hL
  obtain ⟨pp, hs⟩ := sent_laid hLL
  rw [Tryd.params4] at hA hval
  obtain ⟨v0, vs0, d0, ds0, p0, q0, hargs, rfl, rfl, k0, r0⟩ := trodAll_cons hA
  obtain ⟨v1, vs1, d1, ds1, p1, q1, rfl, rfl, rfl, k1, r1⟩ := trodAll_cons r0
  obtain ⟨rfl, rfl, rfl⟩ := trodAll_nil r1
  obtain rfl : args = #[v0, v1] := by cases args; simp_all
  have lt0 : ∀ x ∈ p0, x.block < W.heap.size := by obtain ⟨m, hm⟩ := k0; exact DataW.trod_lt m _ _ _ hm
  have lt1 : ∀ x ∈ p1, x.block < W.heap.size := by obtain ⟨m, hm⟩ := k1; exact DataW.trod_lt m _ _ _ hm
  refine (fromOf_walk (enc := enc) W base v0 d0 p0 (hval 0 25 v0 rfl rfl) k0 v1 d1 p1 (hval 1 27 v1 rfl rfl) k1 pp hs).mono fun e W' ⟨he, bel⟩ => ?_
  subst he
  obtain ⟨g0, g1, g2, g3, g4, g5, rfl⟩ : ∃ g0 g1 g2 g3 g4 g5, gs = [g0, g1, g2, g3, g4, g5] := by
    have hlen := lenVars _ _ _ hV
    match gs, hlen with
    | [g0, g1, g2, g3, g4, g5], _ => exact ⟨g0, g1, g2, g3, g4, g5, rfl⟩
  exact ⟨_, rfl, _, _, _, [], _, _, hW', trodAll_mk1 (shut_bool Tryd.underlying4 _), (trodAll_cons_mk (Below.trod laidAll (by kernel_rfl) (of_decide_eq_true (by kernel_rfl)) k0 bel lt0) (trodAll_cons_mk (Below.trod laidAll (by kernel_rfl) (of_decide_eq_true (by kernel_rfl)) k1 bel lt1) trodAll_mk0)), Below.trodVars laidAll bel (by kernel_rfl) hV, bel.frame _, fun h => by cases h⟩

theorem laid_met (os : Os) : laidMet Tryd.prog Rows.fnExactFromOfRow.laid ((laidWorld os).forCall (fun _ _ => 0) ⟨#[], #[.agg #[.int .i16 0, .slice none 0 0], .agg #[.int .i16 0, .int .i16 0]], []⟩).memory :=
  laidMet_of_run' 8 (by kernel_rfl) (by kernel_rfl)
theorem laid_reads (os : Os) {H : Type} (enc : TypeId × Value → H) : ∃ gs places, DataW.whole enc Tryd.prog ((laidWorld os).forCall (fun _ _ => 0) ⟨#[], #[.agg #[.int .i16 0, .slice none 0 0], .agg #[.int .i16 0, .int .i16 0]], []⟩).memory Tryd.f4.params.toList Rows.fnExactFromOfSpec.vars false #[Value.agg #[.int .i16 0, .slice none 0 0], Value.agg #[.int .i16 0, .int .i16 0]].toList 8 = some ([.agg [.lit (.int .i16 0), .nil], .agg [.lit (.int .i16 0), .lit (.int .i16 0)]], gs, places) := by
  have h : (DataW.whole enc Tryd.prog ((laidWorld os).forCall (fun _ _ => 0) ⟨#[], #[.agg #[.int .i16 0, .slice none 0 0], .agg #[.int .i16 0, .int .i16 0]], []⟩).memory Tryd.f4.params.toList Rows.fnExactFromOfSpec.vars false #[Value.agg #[.int .i16 0, .slice none 0 0], Value.agg #[.int .i16 0, .int .i16 0]].toList 8).map (·.1) = some [.agg [.lit (.int .i16 0), .nil], .agg [.lit (.int .i16 0), .lit (.int .i16 0)]] := by kernel_rfl
  obtain ⟨⟨ds, gs, places⟩, h1, h2⟩ := Option.map_eq_some_iff.1 h
  obtain rfl : ds = _ := h2
  exact ⟨gs, places, h1⟩

set_option maxRecDepth 100000 in
theorem fromOf_lifted (os : Os) (started : os.Started) (H : Type) (enc : TypeId × Value → H) (F : Stop.Interp) :
    ReturnsInHanded {} Tryd.checked os 4 .any ((OpenSpec.ofChange Rows.fnExactFromOfSpec).preRow enc Tryd.prog Tryd.f4 Rows.fnExactFromOfRow.domain false Rows.fnExactFromOfRow.laid) (((OpenSpec.ofChange Rows.fnExactFromOfSpec).at F).post enc Tryd.prog Tryd.f4 false true false false) := by
  obtain ⟨gs, places, hx⟩ := laid_reads os enc
  refine returnsInHanded_of_row (C := Tryd.checked) (s := OpenSpec.ofChange Rows.fnExactFromOfSpec) ownNone started (by kernel_rfl) Tryd.func4
    (witness_row_at (enc := enc) (C := Tryd.checked) false (laidWorld os) #[.agg #[.int .i16 0, .slice none 0 0], .agg #[.int .i16 0, .int .i16 0]] rfl (by kernel_rfl) (by kernel_rfl) (by kernel_rfl)
      (OpenSpec.preRow_of_cond 8 hx (by kernel_rfl) (fun k hk => by cases hk) (by kernel_rfl) (laid_met os))) ?_
  intro W base args ds gs before hval hW _ _ _ hL _ _
  exact fromOf_contract H enc W base args ds gs before hval hW hL

theorem fromOf_l1 : (Rows.fnExactFromOfRow.lifted == Tryd.pinned.checked.prog.liftsFinal) = true := lifts_end
theorem fromOf_l2 : (Tryd.pinned.checked.prog.make == some Rows.fnExactFromOfRow.make) = true := make_end
set_option maxRecDepth 100000 in
set_option maxHeartbeats 8000000 in
theorem fromOf_closed : joinedFacts Tryd.pinned.checked.prog 4 Tryd.f4 (OpenSpec.ofChange Rows.fnExactFromOfSpec).bare Rows.fnExactFromOfRow = true := by
  unfold joinedFacts
  repeat' (with_reducible refine and_mk ?_ ?_)
  all_goals first | (with_reducible exact may_enter) | (with_reducible exact fromOf_l1) | (with_reducible exact fromOf_l2) | (as_aux_lemma => kernel_rfl)

theorem fromOf_said : Rows.FnExactFromOfSaid :=
  OpenClaim.holds_of_cond 4 Tryd.f4 rfl rfl rfl rfl rfl rfl rfl ⟨rfl, rfl, rfl, rfl, rfl⟩ rfl rfl rfl rfl rfl (by kernel_rfl) Tryd.func4 fromOf_closed
    (of_decide_eq_true (by kernel_rfl)) (by unfold Func.isWrapper; first | (rw [if_pos (by decide +kernel)]; kernel_rfl) | (rw [if_neg (by decide +kernel)]; exact ⟨rfl, rfl⟩))
    (fun os started H enc _ F => by rw [OpenClaim.pre_eq_preRow]; exact fromOf_lifted os started H enc F)

theorem fromOf_plain (f : FuncId) (fn : Func) (hf : Tryd.pinned.checked.prog.funcNamed "loop.example/g01384/laws.FnExactFromOf" = some f) (hfn : Tryd.pinned.checked.prog.funcs[f]? = some fn) :
    true = Tryd.pinned.checked.prog.looks [] ∧ ∀ (j : Nat) t, fn.params[j]? = some t → Tryd.pinned.checked.prog.wantsStandIn t = false := by
  obtain rfl : f = 4 := Option.some.inj ((show Tryd.prog.funcNamed "loop.example/g01384/laws.FnExactFromOf" = some 4 by kernel_rfl).symm.trans hf) |>.symm
  obtain rfl : fn = Tryd.f4 := (Option.some.inj (Tryd.func4.symm.trans hfn)).symm
  refine ⟨by kernel_rfl, fun j t ht => ?_⟩
  rw [Tryd.params4] at ht
  have ht2 : t = 25 ∨ t = 27 := by simpa using Array.mem_of_getElem? ht
  rcases ht2 with rfl | rfl
  · exact (show Tryd.prog.wantsStandIn 25 = false by kernel_rfl)
  · exact (show Tryd.prog.wantsStandIn 27 = false by kernel_rfl)

/-- The card. -/
theorem fromOf_holds : Rows.FnExactFromOfCardSaid :=
  Claim7.holds_tied_plain_at .later [] _ _ _ _ fromOf_said (fun _ h => by cases h) (by kernel_rfl) (fun _ h => by cases h) fnExactFromOf_row_tie rfl ⟨rfl, rfl⟩ (by kernel_rfl) rfl fromOf_plain (by kernel_rfl)
#print axioms fromOf_holds
end Go.Proofs.YtcdjabhdbobghaaDoor
