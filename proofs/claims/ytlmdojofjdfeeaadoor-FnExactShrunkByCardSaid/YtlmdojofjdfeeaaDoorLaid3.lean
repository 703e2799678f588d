/-
  No statement is proved here: a row's list of three errors of chapter 3 gives where they lie; condition: the list.
-/
import Derived.Test.YtlmdojofjdfeeaaDoorWithin3
import Derived.Test.YtlmdojofjdfeeaaDoorCards
import Derived.Test.YtlmdojofjdfeeaaDoorTie
import Derived.OpenVars
import Derived.ShutString
import Derived.Deep.DeepHandedRow
import Derived.ChangeVars
import Derived.Stop.LaidErr
import Derived.Shelf.Vars
namespace Go.Proofs.YtlmdojofjdfeeaaDoor
open Go.ChangeShapes Go.WideShapes Go.ChangeAt Go.RowKit
set_option linter.unusedVariables false

theorem lenVars {H : Type} {enc : TypeId × Value → H} {P : Program} {w : World} {sp : Nat → Bool} : ∀ (ns : List String) (gs : List (DataW H)) (ps : List MemPlace), DataW.TrodVars enc P w sp ns gs ps → gs.length = ns.length
  | [], gs, ps, h => by
    obtain ⟨rfl, _⟩ := trodVars_none h
    rfl
  | n :: ns, gs, ps, h => by
    cases gs with
    | nil => simp [DataW.TrodVars] at h
    | cons d ds =>
      obtain ⟨g, t, cs, fuel, p, q, h1, h2, h3, h4, hs, e⟩ := h
      have := lenVars ns ds q hs
      simp [this]
theorem g_errNotValid : Tryd.prog.globalNamed "loop.example/g01384/impl.errNotValid" = some 2 := by kernel_rfl
theorem gt_errNotValid : (Tryd.prog.globals[2]?).map (·.type) = some 65 := by kernel_rfl
theorem g_errOutOfRange : Tryd.prog.globalNamed "loop.example/g01384/impl.errOutOfRange" = some 0 := by kernel_rfl
theorem gt_errOutOfRange : (Tryd.prog.globals[0]?).map (·.type) = some 65 := by kernel_rfl
theorem g_errTooMany : Tryd.prog.globalNamed "loop.example/g01384/impl.errTooMany" = some 1 := by kernel_rfl
theorem gt_errTooMany : (Tryd.prog.globals[1]?).map (·.type) = some 65 := by kernel_rfl
theorem cellsE : Tryd.prog.cellsOf 156 = 1 := by kernel_rfl
theorem cellsS : Tryd.prog.cellsOf 9 = 1 := by kernel_rfl
theorem starE : "*" ++ "errors.errorString" = "*errors.errorString" := by decide
theorem rowE (u : TypeId) (h : Tryd.prog.typeName? 3 u = some "*errors.errorString") : u = 134 :=
  typeName_ptr_named (nm := "errors.errorString") (by rw [starE]; kernel_rfl) (by kernel_rfl) (by decide) u (by rw [starE]; exact h)
theorem one_sent {n : String} {text : List UInt8} {r : List (String × DataW Unit)} {W : World} {g : Nat} (h : laidMet Tryd.prog ((n, .iface "*errors.errorString" (.ptr (.agg [.lit (.string text)]))) :: r) W)
    (hg : Tryd.prog.globalNamed n = some g) (ht : (Tryd.prog.globals[g]?).map (·.type) = some 65) : ∃ a, W.var? Tryd.prog n = some #[errAt a] := by
  obtain ⟨a, _, hv, _⟩ := laid_sentinel h hg ht Tryd.underlying65 rowE Tryd.underlying134 Tryd.underlying156 rfl rfl Tryd.underlying9 cellsE cellsS
  exact ⟨a, hv⟩
def threeA {α : Type} (a b c : α) : Nat → α
  | 0 => a
  | 1 => b
  | _ => c
theorem sent_laid {W : World} (h : laidMet Tryd.prog [("loop.example/g01384/impl.errNotValid", Rows.laid_loop_example_g01384_impl_errNotValid), ("loop.example/g01384/impl.errOutOfRange", Rows.laid_loop_example_g01384_impl_errOutOfRange), ("loop.example/g01384/impl.errTooMany", Rows.laid_loop_example_g01384_impl_errTooMany)] W) : ∃ p, Sent3 W p := by
  obtain ⟨a0, v0⟩ := one_sent h g_errNotValid gt_errNotValid
  obtain ⟨a1, v1⟩ := one_sent h.tail g_errOutOfRange gt_errOutOfRange
  obtain ⟨a2, v2⟩ := one_sent h.tail.tail g_errTooMany gt_errTooMany
  exact ⟨threeA a0 a1 a2, by have h0 := World.var?_cell g_errNotValid v0 0; simpa [threeA] using h0, by have h0 := World.var?_cell g_errOutOfRange v1 0; simpa [threeA] using h0, by have h0 := World.var?_cell g_errTooMany v2 0; simpa [threeA] using h0⟩
/-- So many blocks has the settled world. -/
noncomputable def low : Nat := (World.holding Tryd.prog default ⟨#[], #[], []⟩).heap.size
def putCells (cs : Array Value) : Obj → Obj
  | .cells _ t frozen => .cells cs t frozen
  | o => o
noncomputable def laidWorld (os : Os) : World :=
  let w0 := World.holding Tryd.prog os ⟨#[.cells #[.string ⟨#[97, 32, 121, 97, 114, 110, 32, 105, 115, 32, 110, 111, 116, 32, 118, 97, 108, 105, 100]⟩] 156, .cells #[.string ⟨#[97, 32, 110, 117, 109, 98, 101, 114, 32, 105, 115, 32, 111, 117, 116, 32, 111, 102, 32, 105, 116, 115, 32, 114, 97, 110, 103, 101]⟩] 156, .cells #[.string ⟨#[116, 104, 101, 114, 101, 32, 97, 114, 101, 32, 116, 111, 111, 32, 109, 97, 110, 121]⟩] 156], #[], []⟩
  { w0 with heap := (((w0.heap.modify 2 (putCells #[.iface 134 (.pointer (some ⟨low + 0, 0, none⟩))])).modify 0 (putCells #[.iface 134 (.pointer (some ⟨low + 1, 0, none⟩))])).modify 1 (putCells #[.iface 134 (.pointer (some ⟨low + 2, 0, none⟩))])) }
end Go.Proofs.YtlmdojofjdfeeaaDoor
