/-
  No statement is proved here: a row's list of the six errors of chapter 3 gives where they lie; condition: the list.
-/
import Derived.Test.YtcgcaghmpegehaaDoorErr
import Derived.Test.YtcgcaghmpegehaaDoorCards
import Derived.Test.YtcgcaghmpegehaaDoorTie
import Derived.OpenVars
import Derived.ShutString
import Derived.Deep.DeepHandedRow
import Derived.ChangeVars
import Derived.Stop.LaidErr
import Derived.Stop.LaidTwo
import Derived.Shelf.Vars
import Derived.Lib.LaidTab
import Derived.Lib.ItoaNum
namespace Go.Proofs.YtcgcaghmpegehaaDoor
open Go.ChangeShapes Go.WideShapes Go.ChangeAt Go.RowKit
set_option linter.unusedVariables false

theorem laidSkip {P : Program} {x y : String × DataW Unit} {r : List (String × DataW Unit)} {w : World} (h : laidMet P (x :: y :: r) w) : laidMet P (x :: r) w := by
  obtain ⟨n, d⟩ := x
  obtain ⟨n', d'⟩ := y
  obtain ⟨ps, ⟨g, t, cs, fuel, p, q, h1, h2, h3, h4, ⟨g', t', cs', fuel', p', q', k1, k2, k3, k4, hq, rfl⟩, rfl⟩, hnd, hrows⟩ := h
  have hsub := List.Sublist.append_left (List.sublist_append_right (MemPlace.row ⟨g', 0, none⟩ cs'.size ++ p') q') (MemPlace.row ⟨g, 0, none⟩ cs.size ++ p)
  exact ⟨_, ⟨g, t, cs, fuel, p, q', h1, h2, h3, h4, hq, rfl⟩, hnd.sublist hsub, fun b off hm => hrows b off (hsub.subset hm)⟩
theorem lenVars {H : Type} {enc : TypeId × Value → H} {P : Program} {w : World} {sp : Nat → Bool} : ∀ (ns : List String) (gs : List (DataW H)) (ps : List MemPlace), DataW.TrodVars enc P w sp ns gs ps → gs.length = ns.length
  | [], gs, ps, h => by
    obtain ⟨rfl, _⟩ := trodVars_none h
    rfl
  | n :: ns, gs, ps, h => by
    cases gs with
    | nil => simp [DataW.TrodVars] at h
    | cons d ds =>
      obtain ⟨g, t, cs, fuel, p, q, h1, h2, h3, h4, hs, e⟩ := h
      have := lenVars ns ds q hs
      simp [this]
theorem g_errNotValid : Tryd.prog.globalNamed "loop.example/g01384/impl.errNotValid" = some 0 := by kernel_rfl
theorem gt_errNotValid : (Tryd.prog.globals[0]?).map (·.type) = some 55 := by kernel_rfl
theorem g_errOutOfRange : Tryd.prog.globalNamed "loop.example/g01384/impl.errOutOfRange" = some 1 := by kernel_rfl
theorem gt_errOutOfRange : (Tryd.prog.globals[1]?).map (·.type) = some 55 := by kernel_rfl
theorem g_errTooMany : Tryd.prog.globalNamed "loop.example/g01384/impl.errTooMany" = some 2 := by kernel_rfl
theorem gt_errTooMany : (Tryd.prog.globals[2]?).map (·.type) = some 55 := by kernel_rfl
theorem g_errNoPlies : Tryd.prog.globalNamed "loop.example/g01384/impl.errNoPlies" = some 3 := by kernel_rfl
theorem gt_errNoPlies : (Tryd.prog.globals[3]?).map (·.type) = some 55 := by kernel_rfl
theorem g_errNothingLeft : Tryd.prog.globalNamed "loop.example/g01384/impl.errNothingLeft" = some 5 := by kernel_rfl
theorem gt_errNothingLeft : (Tryd.prog.globals[5]?).map (·.type) = some 55 := by kernel_rfl
theorem g_errNoYarn : Tryd.prog.globalNamed "loop.example/g01384/impl.errNoYarn" = some 4 := by kernel_rfl
theorem gt_errNoYarn : (Tryd.prog.globals[4]?).map (·.type) = some 55 := by kernel_rfl
theorem cellsE : Tryd.prog.cellsOf 139 = 1 := by kernel_rfl
theorem cellsS : Tryd.prog.cellsOf 9 = 1 := by kernel_rfl
theorem starE : "*" ++ "errors.errorString" = "*errors.errorString" := by decide
theorem rowE (u : TypeId) (h : Tryd.prog.typeName? 3 u = some "*errors.errorString") : u = 113 :=
  typeName_ptr_named (nm := "errors.errorString") (by rw [starE]; kernel_rfl) (by kernel_rfl) (by decide) u (by rw [starE]; exact h)
theorem one_sent {n : String} {text : List UInt8} {r : List (String × DataW Unit)} {W : World} {g : Nat} (h : laidMet Tryd.prog ((n, .iface "*errors.errorString" (.ptr (.agg [.lit (.string text)]))) :: r) W)
    (hg : Tryd.prog.globalNamed n = some g) (ht : (Tryd.prog.globals[g]?).map (·.type) = some 55) : ∃ a, W.var? Tryd.prog n = some #[errAt a] := by
  obtain ⟨a, _, hv, _⟩ := laid_sentinel h hg ht Tryd.underlying55 rowE Tryd.underlying113 Tryd.underlying139 rfl rfl Tryd.underlying9 cellsE cellsS
  exact ⟨a, hv⟩
theorem two_sent {n0 n1 : String} {text0 text1 : List UInt8} {r : List (String × DataW Unit)} {W : World} {g0 g1 : Nat} {a0 a1 : Addr}
    (h : laidMet Tryd.prog ((n0, .iface "*errors.errorString" (.ptr (.agg [.lit (.string text0)]))) :: (n1, .iface "*errors.errorString" (.ptr (.agg [.lit (.string text1)]))) :: r) W)
    (hg0 : Tryd.prog.globalNamed n0 = some g0) (ht0 : (Tryd.prog.globals[g0]?).map (·.type) = some 55) (hg1 : Tryd.prog.globalNamed n1 = some g1) (ht1 : (Tryd.prog.globals[g1]?).map (·.type) = some 55)
    (h0 : W.var? Tryd.prog n0 = some #[errAt a0]) (h1 : W.var? Tryd.prog n1 = some #[errAt a1]) :
    a0 ≠ a1 ∧ (∃ cs t, W.heap[a0.block]? = some (.cells cs t (0, 0))) ∧ ∃ cs t, W.heap[a1.block]? = some (.cells cs t (0, 0)) := by
  obtain ⟨b0, b1, _, _, c0, c1, t0, t1, e0, e1, _, _, _, _, _, _, hne, k0, k1⟩ := laid_sentinels2 h hg0 ht0 hg1 ht1 Tryd.underlying55 rowE Tryd.underlying113 Tryd.underlying139 rfl rfl Tryd.underlying9 cellsE cellsS
  rw [h0] at e0
  rw [h1] at e1
  simp at e0 e1
  subst e0
  subst e1
  exact ⟨hne, ⟨c0, t0, k0⟩, ⟨c1, t1, k1⟩⟩
def six {α : Type} (a b c d e f : α) : Nat → α
  | 0 => a
  | 1 => b
  | 2 => c
  | 3 => d
  | 4 => e
  | _ => f
theorem six_ne {a b c d e f : Addr} (h : a ≠ b ∧ a ≠ c ∧ a ≠ d ∧ a ≠ e ∧ a ≠ f ∧ b ≠ c ∧ b ≠ d ∧ b ≠ e ∧ b ≠ f ∧ c ≠ d ∧ c ≠ e ∧ c ≠ f ∧ d ≠ e ∧ d ≠ f ∧ e ≠ f) (i j : Nat) (hi : i < 6) (hj : j < 6) (hij : i ≠ j) : six a b c d e f i ≠ six a b c d e f j := by
  obtain ⟨h1, h2, h3, h4, h5, h6, h7, h8, h9, h10, h11, h12, h13, h14, h15⟩ := h
  have ci : i = 0 ∨ i = 1 ∨ i = 2 ∨ i = 3 ∨ i = 4 ∨ i = 5 := by omega
  have cj : j = 0 ∨ j = 1 ∨ j = 2 ∨ j = 3 ∨ j = 4 ∨ j = 5 := by omega
  rcases ci with rfl | rfl | rfl | rfl | rfl | rfl <;> rcases cj with rfl | rfl | rfl | rfl | rfl | rfl <;> first | exact absurd rfl hij | assumption | (exact Ne.symm (by assumption))

theorem sent_laid {W : World} (h : laidMet Tryd.prog [("loop.example/g01384/impl.errNotValid", Rows.laid_loop_example_g01384_impl_errNotValid), ("loop.example/g01384/impl.errOutOfRange", Rows.laid_loop_example_g01384_impl_errOutOfRange), ("loop.example/g01384/impl.errTooMany", Rows.laid_loop_example_g01384_impl_errTooMany), ("loop.example/g01384/impl.errNoPlies", Rows.laid_loop_example_g01384_impl_errNoPlies), ("loop.example/g01384/impl.errNothingLeft", Rows.laid_loop_example_g01384_impl_errNothingLeft), ("loop.example/g01384/impl.errNoYarn", Rows.laid_loop_example_g01384_impl_errNoYarn)] W) : ∃ p, Sent W p := by
  obtain ⟨a0, v0⟩ := one_sent h g_errNotValid gt_errNotValid
  obtain ⟨a1, v1⟩ := one_sent h.tail g_errOutOfRange gt_errOutOfRange
  obtain ⟨a2, v2⟩ := one_sent h.tail.tail g_errTooMany gt_errTooMany
  obtain ⟨a3, v3⟩ := one_sent h.tail.tail.tail g_errNoPlies gt_errNoPlies
  obtain ⟨a5, v5⟩ := one_sent h.tail.tail.tail.tail g_errNothingLeft gt_errNothingLeft
  obtain ⟨a4, v4⟩ := one_sent h.tail.tail.tail.tail.tail g_errNoYarn gt_errNoYarn
  have n01 := two_sent h g_errNotValid gt_errNotValid g_errOutOfRange gt_errOutOfRange v0 v1
  have n02 := two_sent (laidSkip h) g_errNotValid gt_errNotValid g_errTooMany gt_errTooMany v0 v2
  have n03 := two_sent (laidSkip (laidSkip h)) g_errNotValid gt_errNotValid g_errNoPlies gt_errNoPlies v0 v3
  have n05 := two_sent (laidSkip (laidSkip (laidSkip h))) g_errNotValid gt_errNotValid g_errNothingLeft gt_errNothingLeft v0 v5
  have n04 := two_sent (laidSkip (laidSkip (laidSkip (laidSkip h)))) g_errNotValid gt_errNotValid g_errNoYarn gt_errNoYarn v0 v4
  have n12 := two_sent h.tail g_errOutOfRange gt_errOutOfRange g_errTooMany gt_errTooMany v1 v2
  have n13 := two_sent (laidSkip h.tail) g_errOutOfRange gt_errOutOfRange g_errNoPlies gt_errNoPlies v1 v3
  have n15 := two_sent (laidSkip (laidSkip h.tail)) g_errOutOfRange gt_errOutOfRange g_errNothingLeft gt_errNothingLeft v1 v5
  have n14 := two_sent (laidSkip (laidSkip (laidSkip h.tail))) g_errOutOfRange gt_errOutOfRange g_errNoYarn gt_errNoYarn v1 v4
  have n23 := two_sent h.tail.tail g_errTooMany gt_errTooMany g_errNoPlies gt_errNoPlies v2 v3
  have n25 := two_sent (laidSkip h.tail.tail) g_errTooMany gt_errTooMany g_errNothingLeft gt_errNothingLeft v2 v5
  have n24 := two_sent (laidSkip (laidSkip h.tail.tail)) g_errTooMany gt_errTooMany g_errNoYarn gt_errNoYarn v2 v4
  have n35 := two_sent h.tail.tail.tail g_errNoPlies gt_errNoPlies g_errNothingLeft gt_errNothingLeft v3 v5
  have n34 := two_sent (laidSkip h.tail.tail.tail) g_errNoPlies gt_errNoPlies g_errNoYarn gt_errNoYarn v3 v4
  have n45 := two_sent h.tail.tail.tail.tail g_errNothingLeft gt_errNothingLeft g_errNoYarn gt_errNoYarn v5 v4
  refine ⟨six a0 a1 a2 a3 a4 a5, ⟨?_, ?_, ?_, ?_, ?_, ?_⟩, six_ne ?_, ?_⟩
  · have h0 := World.var?_cell g_errNotValid v0 0
    simpa [six] using h0
  · have h0 := World.var?_cell g_errOutOfRange v1 0
    simpa [six] using h0
  · have h0 := World.var?_cell g_errTooMany v2 0
    simpa [six] using h0
  · have h0 := World.var?_cell g_errNoPlies v3 0
    simpa [six] using h0
  · have h0 := World.var?_cell g_errNoYarn v4 0
    simpa [six] using h0
  · have h0 := World.var?_cell g_errNothingLeft v5 0
    simpa [six] using h0
  · exact ⟨n01.1, n02.1, n03.1, n04.1, n05.1, n12.1, n13.1, n14.1, n15.1, n23.1, n24.1, n25.1, n34.1, n35.1, n45.1.symm⟩
  · intro i hi
    have ci : i = 0 ∨ i = 1 ∨ i = 2 ∨ i = 3 ∨ i = 4 ∨ i = 5 := by omega
    rcases ci with rfl | rfl | rfl | rfl | rfl | rfl
    · exact n01.2.1
    · exact n01.2.2
    · exact n02.2.2
    · exact n03.2.2
    · exact n04.2.2
    · exact n05.2.2

theorem gPow : Tryd.prog.globalNamed "internal/strconv.uint64pow10" = some 6 := by kernel_rfl
theorem gPowType : (Tryd.prog.globals[6]?).map (·.type) = some 93 := by kernel_rfl
theorem pow_is {H : Type} : (Rows.laid_internal_strconv_uint64pow10 : DataW H) = Lib.tabData .u64 Lib.pow10Tab := by kernel_rfl
/-- What the row's list gives: the table of powers. -/
theorem tab_laid {W : World} {r : List (String × DataW Unit)} (h' : laidMet Tryd.prog (("math/bits.deBruijn32tab", Rows.laid_math_bits_deBruijn32tab) :: ("math/bits.deBruijn64tab", Rows.laid_math_bits_deBruijn64tab) :: ("internal/strconv.uint64pow10", Rows.laid_internal_strconv_uint64pow10) :: r) W) : Lib.TabIs Tryd.prog W "internal/strconv.uint64pow10" .u64 Lib.pow10Tab := by
  obtain ⟨ps, ⟨_, _, _, _, _, q1, _, _, _, _, ⟨_, _, _, _, _, q2, _, _, _, _, ⟨g', t', cs, fuel, p, q, hg', ht', hvar, hd, _, _⟩, _⟩, _⟩, _⟩ := h'
  obtain rfl := Option.some.inj (gPow.symm.trans hg')
  obtain rfl := Option.some.inj (gPowType.symm.trans ht')
  rw [pow_is] at hd
  unfold Lib.TabIs
  rw [hvar, ← Lib.cells_of_tab Tryd.underlying93 Tryd.underlying80 (by kernel_rfl) (by kernel_rfl) hd]

/-- So many blocks has the settled world. -/
noncomputable def low : Nat := (World.holding Tryd.prog default ⟨#[], #[], []⟩).heap.size
def putCells (cs : Array Value) : Obj → Obj
  | .cells _ t frozen => .cells cs t frozen
  | o => o
noncomputable def laidWorld (os : Os) : World :=
  let w0 := World.holding Tryd.prog os ⟨#[.cells #[.string ⟨#[97, 32, 121, 97, 114, 110, 32, 105, 115, 32, 110, 111, 116, 32, 118, 97, 108, 105, 100]⟩] 139, .cells #[.string ⟨#[97, 32, 110, 117, 109, 98, 101, 114, 32, 105, 115, 32, 111, 117, 116, 32, 111, 102, 32, 105, 116, 115, 32, 114, 97, 110, 103, 101]⟩] 139, .cells #[.string ⟨#[116, 104, 101, 114, 101, 32, 97, 114, 101, 32, 116, 111, 111, 32, 109, 97, 110, 121]⟩] 139, .cells #[.string ⟨#[116, 104, 101, 115, 101, 32, 97, 114, 101, 32, 110, 111, 32, 112, 108, 105, 101, 115]⟩] 139, .cells #[.string ⟨#[108, 101, 115, 115, 32, 116, 104, 97, 110, 32, 111, 110, 101, 32, 109, 101, 116, 114, 101, 32, 105, 115, 32, 108, 101, 102, 116]⟩] 139, .cells #[.string ⟨#[116, 104, 105, 115, 32, 105, 115, 32, 110, 111, 32, 116, 101, 120, 116, 32, 111, 102, 32, 97, 32, 121, 97, 114, 110]⟩] 139], #[], []⟩
  { w0 with heap := (((((((((w0.heap.modify 6 (putCells #[.int .u64 1, .int .u64 10, .int .u64 100, .int .u64 1000, .int .u64 10000, .int .u64 100000, .int .u64 1000000, .int .u64 10000000, .int .u64 100000000, .int .u64 1000000000, .int .u64 10000000000, .int .u64 100000000000, .int .u64 1000000000000, .int .u64 10000000000000, .int .u64 100000000000000, .int .u64 1000000000000000, .int .u64 10000000000000000, .int .u64 100000000000000000, .int .u64 1000000000000000000, .int .u64 10000000000000000000])).modify 7 (putCells #[.int .u8 0, .int .u8 1, .int .u8 28, .int .u8 2, .int .u8 29, .int .u8 14, .int .u8 24, .int .u8 3, .int .u8 30, .int .u8 22, .int .u8 20, .int .u8 15, .int .u8 25, .int .u8 17, .int .u8 4, .int .u8 8, .int .u8 31, .int .u8 27, .int .u8 13, .int .u8 23, .int .u8 21, .int .u8 19, .int .u8 16, .int .u8 7, .int .u8 26, .int .u8 12, .int .u8 18, .int .u8 6, .int .u8 11, .int .u8 5, .int .u8 10, .int .u8 9])).modify 8 (putCells #[.int .u8 0, .int .u8 1, .int .u8 56, .int .u8 2, .int .u8 57, .int .u8 49, .int .u8 28, .int .u8 3, .int .u8 61, .int .u8 58, .int .u8 42, .int .u8 50, .int .u8 38, .int .u8 29, .int .u8 17, .int .u8 4, .int .u8 62, .int .u8 47, .int .u8 59, .int .u8 36, .int .u8 45, .int .u8 43, .int .u8 51, .int .u8 22, .int .u8 53, .int .u8 39, .int .u8 33, .int .u8 30, .int .u8 24, .int .u8 18, .int .u8 12, .int .u8 5, .int .u8 63, .int .u8 55, .int .u8 48, .int .u8 27, .int .u8 60, .int .u8 41, .int .u8 37, .int .u8 16, .int .u8 46, .int .u8 35, .int .u8 44, .int .u8 21, .int .u8 52, .int .u8 32, .int .u8 23, .int .u8 11, .int .u8 54, .int .u8 26, .int .u8 40, .int .u8 15, .int .u8 34, .int .u8 20, .int .u8 31, .int .u8 10, .int .u8 25, .int .u8 14, .int .u8 19, .int .u8 9, .int .u8 13, .int .u8 8, .int .u8 7, .int .u8 6])).modify 0 (putCells #[.iface 113 (.pointer (some ⟨low + 0, 0, none⟩))])).modify 1 (putCells #[.iface 113 (.pointer (some ⟨low + 1, 0, none⟩))])).modify 2 (putCells #[.iface 113 (.pointer (some ⟨low + 2, 0, none⟩))])).modify 3 (putCells #[.iface 113 (.pointer (some ⟨low + 3, 0, none⟩))])).modify 5 (putCells #[.iface 113 (.pointer (some ⟨low + 4, 0, none⟩))])).modify 4 (putCells #[.iface 113 (.pointer (some ⟨low + 5, 0, none⟩))])) }
end Go.Proofs.YtcgcaghmpegehaaDoor
