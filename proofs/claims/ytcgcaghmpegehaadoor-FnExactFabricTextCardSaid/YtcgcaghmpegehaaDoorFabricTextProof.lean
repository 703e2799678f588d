/-
  Proved here: FnExactFabricTextCardSaid: the law on FabricText answers true for all arguments, where the listed errors of the package hold what the program's text lays (the card ties that to the text); no other condition.
-/
import Derived.Test.YtcgcaghmpegehaaDoorFabricTextWalk
import Derived.Test.YtcgcaghmpegehaaDoorFbLaid
import Derived.Test.YtcgcaghmpegehaaDoorClosed

namespace Go.Proofs.YtcgcaghmpegehaaDoor
open Go.ChangeShapes Go.WideShapes Go.ChangeAt Go.RowKit
set_option linter.unusedVariables false

set_option maxRecDepth 100000 in
theorem fabricText_contract (H : Type) (enc : TypeId × Value → H) (W : World) (base : Nat) (args : Array Value) (ds gs : List (DataW H)) (before : List MemPlace)
    (hval : ∀ (j : Nat) t v, Tryd.f3.params[j]? = some t → args[j]? = some v → Value.okWide Tryd.prog W .any base t v)
    (hW : DataW.Whole enc Tryd.prog Tryd.f3.params.toList Rows.fnExactFabricTextSpec.vars false W args.toList ds gs before) (hL : laidMetH Tryd.prog Rows.fnExactFabricTextRow.laid W) :
    Calls Tryd.prog 3 args W fun e W' => ∃ v, e = .returned v ∧ Rows.fnExactFabricTextSpec.post enc Tryd.prog Tryd.f3 false true false false W args v W' := by
  have hW' := hW
  obtain ⟨p, q, hA0, hV0, rfl, hfz, hnd⟩ := hW
  have hA : DataW.TrodAll enc Tryd.prog W 0 (fun _ => true) true Tryd.f3.params.toList args.toList ds p := hA0
  have hV : DataW.TrodVars enc Tryd.prog W (fun _ => true) ["loop.example/g01384/impl.errOutOfRange", "loop.example/g01384/impl.errTooMany", "loop.example/g01384/impl.errNotValid", "loop.example/g01384/impl.errNoPlies", "loop.example/g01384/impl.errNoYarn", "loop.example/g01384/impl.errNothingLeft"] gs q := hV0
  have hLL : laidMet Tryd.prog [("math/bits.deBruijn32tab", Rows.laid_math_bits_deBruijn32tab), ("math/bits.deBruijn64tab", Rows.laid_math_bits_deBruijn64tab), ("internal/strconv.uint64pow10", Rows.laid_internal_strconv_uint64pow10), ("loop.example/g01384/impl.errNotValid", Rows.laid_loop_example_g01384_impl_errNotValid), ("loop.example/g01384/impl.errOutOfRange", Rows.laid_loop_example_g01384_impl_errOutOfRange), ("loop.example/g01384/impl.errTooMany", Rows.laid_loop_example_g01384_impl_errTooMany), ("loop.example/g01384/impl.errNoPlies", Rows.laid_loop_example_g01384_impl_errNoPlies), ("loop.example/g01384/impl.errNothingLeft", Rows.laid_loop_example_g01384_impl_errNothingLeft), ("loop.example/g01384/impl.errNoYarn", Rows.laid_loop_example_g01384_impl_errNoYarn)] W := hL
  obtain ⟨pp, hs⟩ := sent_laid hLL.tail.tail.tail
  rw [Tryd.params3] at hA hval
  obtain ⟨v0, vs0, d0, ds0, p0, q0, hargs, rfl, rfl, k0, r0⟩ := trodAll_cons hA
  obtain ⟨rfl, rfl, rfl⟩ := trodAll_nil r0
  obtain rfl : args = #[v0] := by cases args; simp_all
  have lt0 : ∀ x ∈ p0, x.block < W.heap.size := by obtain ⟨m, hm⟩ := k0; exact DataW.trod_lt m _ _ _ hm
  refine (fabricText_walk (enc := enc) W base v0 d0 p0 (hval 0 25 v0 rfl rfl) k0 pp hs (tab_laid hLL)).mono fun e W' ⟨he, bel⟩ => ?_
  subst he
  obtain ⟨g0, g1, g2, g3, g4, g5, rfl⟩ : ∃ g0 g1 g2 g3 g4 g5, gs = [g0, g1, g2, g3, g4, g5] := by
    have hlen := lenVars _ _ _ hV
    match gs, hlen with
    | [g0, g1, g2, g3, g4, g5], _ => exact ⟨g0, g1, g2, g3, g4, g5, rfl⟩
  exact ⟨_, rfl, _, _, _, [], _, _, hW', trodAll_mk1 (shut_bool Tryd.underlying4 _), (trodAll_cons_mk (Below.trod laidAll (by kernel_rfl) (of_decide_eq_true (by kernel_rfl)) k0 bel lt0) trodAll_mk0), Below.trodVars laidAll bel (by kernel_rfl) hV, bel.frame _, fun h => by cases h⟩

theorem laid_met (os : Os) : laidMet Tryd.prog Rows.fnExactFabricTextRow.laid ((laidWorld os).forCall (fun _ _ => 0) ⟨#[], #[.agg #[.int .i16 0, .slice none 0 0]], []⟩).memory :=
  laidMet_of_run' 8 (by kernel_rfl) (by kernel_rfl)
theorem laid_reads (os : Os) {H : Type} (enc : TypeId × Value → H) : ∃ gs places, DataW.whole enc Tryd.prog ((laidWorld os).forCall (fun _ _ => 0) ⟨#[], #[.agg #[.int .i16 0, .slice none 0 0]], []⟩).memory Tryd.f3.params.toList Rows.fnExactFabricTextSpec.vars false #[Value.agg #[.int .i16 0, .slice none 0 0]].toList 8 = some ([.agg [.lit (.int .i16 0), .nil]], gs, places) := by
  have h : (DataW.whole enc Tryd.prog ((laidWorld os).forCall (fun _ _ => 0) ⟨#[], #[.agg #[.int .i16 0, .slice none 0 0]], []⟩).memory Tryd.f3.params.toList Rows.fnExactFabricTextSpec.vars false #[Value.agg #[.int .i16 0, .slice none 0 0]].toList 8).map (·.1) = some [.agg [.lit (.int .i16 0), .nil]] := by kernel_rfl
  obtain ⟨⟨ds, gs, places⟩, h1, h2⟩ := Option.map_eq_some_iff.1 h
  obtain rfl : ds = _ := h2
  exact ⟨gs, places, h1⟩

set_option maxRecDepth 100000 in
theorem fabricText_lifted (os : Os) (started : os.Started) (H : Type) (enc : TypeId × Value → H) (F : Stop.Interp) :
    ReturnsInHanded {} Tryd.checked os 3 .any ((OpenSpec.ofChange Rows.fnExactFabricTextSpec).preRow enc Tryd.prog Tryd.f3 Rows.fnExactFabricTextRow.domain false Rows.fnExactFabricTextRow.laid) (((OpenSpec.ofChange Rows.fnExactFabricTextSpec).at F).post enc Tryd.prog Tryd.f3 false true false false) := by
  obtain ⟨gs, places, hx⟩ := laid_reads os enc
  refine returnsInHanded_of_row (C := Tryd.checked) (s := OpenSpec.ofChange Rows.fnExactFabricTextSpec) ownNone started (by kernel_rfl) Tryd.func3
    (witness_row_at (enc := enc) (C := Tryd.checked) false (laidWorld os) #[.agg #[.int .i16 0, .slice none 0 0]] rfl (by kernel_rfl) (by kernel_rfl) (by kernel_rfl)
      (OpenSpec.preRow_of_cond 8 hx (by kernel_rfl) (fun k hk => by cases hk) (by kernel_rfl) (laid_met os))) ?_
  intro W base args ds gs before hval hW _ _ _ hL _ _
  exact fabricText_contract H enc W base args ds gs before hval hW hL

theorem fabricText_l1 : (Rows.fnExactFabricTextRow.lifted == Tryd.pinned.checked.prog.liftsFinal) = true := lifts_end
theorem fabricText_l2 : (Tryd.pinned.checked.prog.make == some Rows.fnExactFabricTextRow.make) = true := make_end
set_option maxRecDepth 100000 in
set_option maxHeartbeats 8000000 in
theorem fabricText_closed : joinedFacts Tryd.pinned.checked.prog 3 Tryd.f3 (OpenSpec.ofChange Rows.fnExactFabricTextSpec).bare Rows.fnExactFabricTextRow = true := by
  unfold joinedFacts
  repeat' (with_reducible refine and_mk ?_ ?_)
  all_goals first | (with_reducible exact may_enter) | (with_reducible exact fabricText_l1) | (with_reducible exact fabricText_l2) | (as_aux_lemma => kernel_rfl)

theorem fabricText_said : Rows.FnExactFabricTextSaid :=
  OpenClaim.holds_of_cond 3 Tryd.f3 rfl rfl rfl rfl rfl rfl rfl ⟨rfl, rfl, rfl, rfl, rfl⟩ rfl rfl rfl rfl rfl (by kernel_rfl) Tryd.func3 fabricText_closed
    (of_decide_eq_true (by kernel_rfl)) (by unfold Func.isWrapper; first | (rw [if_pos (by decide +kernel)]; kernel_rfl) | (rw [if_neg (by decide +kernel)]; exact ⟨rfl, rfl⟩))
    (fun os started H enc _ F => by rw [OpenClaim.pre_eq_preRow]; exact fabricText_lifted os started H enc F)

theorem fabricText_plain (f : FuncId) (fn : Func) (hf : Tryd.pinned.checked.prog.funcNamed "loop.example/g01384/laws.FnExactFabricText" = some f) (hfn : Tryd.pinned.checked.prog.funcs[f]? = some fn) :
    true = Tryd.pinned.checked.prog.looks [] ∧ ∀ (j : Nat) t, fn.params[j]? = some t → Tryd.pinned.checked.prog.wantsStandIn t = false := by
  obtain rfl : f = 3 := Option.some.inj ((show Tryd.prog.funcNamed "loop.example/g01384/laws.FnExactFabricText" = some 3 by kernel_rfl).symm.trans hf) |>.symm
  obtain rfl : fn = Tryd.f3 := (Option.some.inj (Tryd.func3.symm.trans hfn)).symm
  refine ⟨by kernel_rfl, fun j t ht => ?_⟩
  rw [Tryd.params3] at ht
  have ht2 : t = 25 := by simpa using Array.mem_of_getElem? ht
  rcases ht2 with rfl
  · exact (show Tryd.prog.wantsStandIn 25 = false by kernel_rfl)

/-- The card. -/
theorem fabricText_holds : Rows.FnExactFabricTextCardSaid :=
  Claim7.holds_tied_plain_at .later [] _ _ _ _ fabricText_said (fun _ h => by cases h) (by kernel_rfl) (fun _ h => by cases h) fnExactFabricText_row_tie rfl ⟨rfl, rfl⟩ (by kernel_rfl) rfl fabricText_plain (by kernel_rfl)
#print axioms fabricText_holds
end Go.Proofs.YtcgcaghmpegehaaDoor
