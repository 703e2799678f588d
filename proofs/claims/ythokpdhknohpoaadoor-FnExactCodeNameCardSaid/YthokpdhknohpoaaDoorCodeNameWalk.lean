/-
  Proved here: FnExactCodeNameCardSaid: the law on CodeName answers true for all arguments, where the package's table of names holds what the program's text lays (the card ties that to the text).
-/
import Derived.Test.YthokpdhknohpoaaDoorCards
import Derived.Test.YthokpdhknohpoaaDoorTie
import Derived.Test.YthokpdhknohpoaaDoorBase
import Derived.ShutString
import Derived.Deep.DeepHandedRow
import Derived.Lib.LaidTab
import Derived.ChangeVars
namespace Go.Proofs.YthokpdhknohpoaaDoor
open Go.ChangeShapes Go.WideShapes Go.ChangeAt Go.RowKit
set_option linter.unusedVariables false

/-- An array of strings that reads as listed holds these strings, cell for cell. -/
theorem cells_of_strs {H : Type} {enc : TypeId × Value → H} {P : Program} {w : World} {base : Nat} {sp : Nat → Bool} {held : Bool} {fuel : Nat} {t e : TypeId} {n : Nat} {cs : List Value} {ls : List (List UInt8)} {p : List MemPlace}
    (ht : P.underlying t = some (.array n e)) (he : P.underlying e = some .string) (hce : P.cellsOf e = 1) (hct : P.cellsOf t = n)
    (h : DataW.trod enc P w base sp held fuel t cs = some (.agg (ls.map fun l => .lit (.string l)), p)) : cs = ls.map fun l => Value.string ⟨l.toArray⟩ := by
  obtain ⟨xs, m, rfl, hx, hl, hxl, hi⟩ := DataW.trod_array ht h
  rw [hce] at hi
  simp only [Nat.mul_one] at hi
  simp only [Prod.mk.injEq, DataW.agg.injEq] at hx
  have hmap : xs.map (·.1) = ls.map fun l => (DataW.lit (.string l) : DataW H) := hx.1.symm
  have hzl : ls.length = n := by
    have := congrArg List.length hmap
    simp at this
    omega
  apply List.ext_getElem?
  intro i
  by_cases hlt : i < n
  · have hf := hi i hlt
    obtain ⟨b, hb⟩ : ∃ b, xs[i]? = some b := ⟨xs[i]'(by omega), by simp [hxl, hlt]⟩
    rw [hb] at hf
    obtain ⟨s, hc, rfl, _⟩ := DataW.trod_string he hf
    have h1 : cs[i]? = some (.string s) := by
      have := congrArg (·[0]?) hc
      simpa [List.getElem?_take, List.getElem?_drop] using this
    have h2 : (xs.map (·.1))[i]? = some (DataW.lit (.string s.data.toList) : DataW H) := by simp [hb]
    rw [hmap] at h2
    simp only [List.getElem?_map, Option.map_eq_some_iff, DataW.lit.injEq, Lit.string.injEq] at h2
    obtain ⟨z, hz, hzs⟩ := h2
    rw [h1, List.getElem?_map, hz]
    simp [hzs]
  · rw [List.getElem?_eq_none (by omega), List.getElem?_eq_none (by simp; omega)]

theorem gNames : Tryd.prog.globalNamed "loop.example/g01384/impl.codeNames" = some 0 := by kernel_rfl
theorem gNamesType : (Tryd.prog.globals[0]?).map (·.type) = some 26 := by kernel_rfl

def nameBytes : List (List UInt8) := [[111, 107], [105, 110, 118, 97, 108, 105, 100], [114, 97, 110, 103, 101], [108, 105, 109, 105, 116], [115, 116, 97, 116, 101], [115, 121, 110, 116, 97, 120], [110, 111, 116, 102, 111, 117, 110, 100], [98, 117, 100, 103, 101, 116], [112, 114, 111, 111, 102]]

/-- What the row's list gives: the variable's cells hold the nine names. -/
theorem names_laid {W : World} (h : laidMetH Tryd.prog Rows.fnExactCodeNameRow.laid W) : W.var? Tryd.prog "loop.example/g01384/impl.codeNames" = some (nameBytes.map fun l => Value.string ⟨l.toArray⟩).toArray := by
  have h' : laidMet Tryd.prog [("loop.example/g01384/impl.codeNames", .agg (nameBytes.map fun l => .lit (.string l)))] W := h
  obtain ⟨ps, ⟨g', t', cs, fuel, p, q, hg', ht', hvar, hd, _, _⟩, _⟩ := h'
  obtain rfl := Option.some.inj (gNames.symm.trans hg')
  obtain rfl := Option.some.inj (gNamesType.symm.trans ht')
  rw [hvar, ← cells_of_strs Tryd.underlying26 Tryd.underlying9 (by kernel_rfl) (by kernel_rfl) hd]
theorem name_cell {W : World} (h : W.var? Tryd.prog "loop.example/g01384/impl.codeNames" = some (nameBytes.map fun l => Value.string ⟨l.toArray⟩).toArray) (i : Nat) : W.cell? ⟨0, i, none⟩ = (nameBytes.map fun l => Value.string ⟨l.toArray⟩)[i]? := by
  have := World.var?_cell gNames h i
  simpa using this

set_option maxHeartbeats 800000 in
theorem codeName_in (w : World) (h0 : w.cell? ⟨0, 0, none⟩ = some (.string ⟨#[111, 107]⟩)) (h1 : w.cell? ⟨0, 1, none⟩ = some (.string ⟨#[105, 110, 118, 97, 108, 105, 100]⟩)) (h2 : w.cell? ⟨0, 2, none⟩ = some (.string ⟨#[114, 97, 110, 103, 101]⟩)) (h3 : w.cell? ⟨0, 3, none⟩ = some (.string ⟨#[108, 105, 109, 105, 116]⟩)) (h4 : w.cell? ⟨0, 4, none⟩ = some (.string ⟨#[115, 116, 97, 116, 101]⟩)) (h5 : w.cell? ⟨0, 5, none⟩ = some (.string ⟨#[115, 121, 110, 116, 97, 120]⟩)) (h6 : w.cell? ⟨0, 6, none⟩ = some (.string ⟨#[110, 111, 116, 102, 111, 117, 110, 100]⟩)) (h7 : w.cell? ⟨0, 7, none⟩ = some (.string ⟨#[98, 117, 100, 103, 101, 116]⟩)) (h8 : w.cell? ⟨0, 8, none⟩ = some (.string ⟨#[112, 114, 111, 111, 102]⟩)) (hz : 0 < w.heap.size) (n : Int) (hn : 0 ≤ n ∧ n ≤ 8) :
    Calls Tryd.prog 3 #[.int .i64 n] w fun e w' => e = .returned (.bool true) ∧ Below w.heap.size w w' := by
  have hk : n = 0 ∨ n = 1 ∨ n = 2 ∨ n = 3 ∨ n = 4 ∨ n = 5 ∨ n = 6 ∨ n = 7 ∨ n = 8 := by omega
  have hz1 : ¬ (0 = w.heap.size) := by omega
  have hz2 : ¬ (w.heap.size = 0) := by omega
  clear hn
  rcases hk with rfl | rfl | rfl | rfl | rfl | rfl | rfl | rfl | rfl
  all_goals
    go_enter Tryd.func3, Tryd.ntmps3
    go_wp2
    go_ret
    exact ⟨rfl, by go_grown⟩

theorem codeName_out (w : World) (n : Int) (hn : n < 0 ∨ 8 < n) :
    Calls Tryd.prog 3 #[.int .i64 n] w fun e w' => e = .returned (.bool true) ∧ Below w.heap.size w w' := by
  rcases hn with hn | hn
  · have h1 : ¬ 0 ≤ n := by omega
    go_enter Tryd.func3, Tryd.ntmps3
    go_wp2
    go_ret
    exact ⟨rfl, by go_grown⟩
  · have h0 : 0 ≤ n := by omega
    have h1 : ¬ n < 0 := by omega
    have h2 : ¬ n ≤ 8 := by omega
    have h3 : 9 ≤ n := by omega
    go_enter Tryd.func3, Tryd.ntmps3
    go_wp2
    go_ret
    exact ⟨rfl, by go_grown⟩
end Go.Proofs.YthokpdhknohpoaaDoor
