/-
  DERIVED. GIVEN WITH THE SEED: THE PROGRAM's TIES (one call each: nine closed facts by the kernel) AND EACH ROW's TIE, after the 31st guide's Derived/Test/Toyas{Tie, Card}.lean. No idea stands in it: it is a product of the set-up. Laid BY PROGRAM, IN A SANDBOX (cutbox-door.mjs). By AI agents, Wed Nov 11 2026. No macro, syntax, notation, axiom, sorry.
-/
import Derived.Test.YtcgcaghmpegehaaDoorRows
import Derived.LaidByTextLater
import Derived.SevenTiedAt
import Derived.LaidSub
import Derived.LaidOnce
namespace Go.Proofs.YtcgcaghmpegehaaDoor
open Go
set_option maxRecDepth 100000
theorem seatTie1 : Tryd.prog.laidByTextLater [("math/bits.deBruijn32tab", Rows.laid_math_bits_deBruijn32tab), ("math/bits.deBruijn64tab", Rows.laid_math_bits_deBruijn64tab), ("internal/strconv.uint64pow10", Rows.laid_internal_strconv_uint64pow10), ("loop.example/g01384/impl.errNotValid", Rows.laid_loop_example_g01384_impl_errNotValid), ("loop.example/g01384/impl.errOutOfRange", Rows.laid_loop_example_g01384_impl_errOutOfRange), ("loop.example/g01384/impl.errTooMany", Rows.laid_loop_example_g01384_impl_errTooMany), ("loop.example/g01384/impl.errNoPlies", Rows.laid_loop_example_g01384_impl_errNoPlies), ("loop.example/g01384/impl.errNothingLeft", Rows.laid_loop_example_g01384_impl_errNothingLeft), ("loop.example/g01384/impl.errNoYarn", Rows.laid_loop_example_g01384_impl_errNoYarn)] [.data, .data, .data, .sentinel, .sentinel, .sentinel, .sentinel, .sentinel, .sentinel] true :=
  Program.laidByTextLater_by_one 138 8 65 (by kernel_rfl) (by kernel_rfl) (by kernel_rfl) (by kernel_rfl) (by kernel_rfl) (by kernel_rfl) (fun _ _ => by kernel_rfl)
theorem noOwnUnsafe : Tryd.pinned.checked.prog.headLifts.contains "ownunsafe" = false := by kernel_rfl
theorem tie : Tryd.prog.laidByTextLater [("math/bits.deBruijn32tab", Rows.laid_math_bits_deBruijn32tab), ("math/bits.deBruijn64tab", Rows.laid_math_bits_deBruijn64tab), ("internal/strconv.uint64pow10", Rows.laid_internal_strconv_uint64pow10), ("loop.example/g01384/impl.errNotValid", Rows.laid_loop_example_g01384_impl_errNotValid), ("loop.example/g01384/impl.errOutOfRange", Rows.laid_loop_example_g01384_impl_errOutOfRange), ("loop.example/g01384/impl.errTooMany", Rows.laid_loop_example_g01384_impl_errTooMany), ("loop.example/g01384/impl.errNoPlies", Rows.laid_loop_example_g01384_impl_errNoPlies), ("loop.example/g01384/impl.errNothingLeft", Rows.laid_loop_example_g01384_impl_errNothingLeft), ("loop.example/g01384/impl.errNoYarn", Rows.laid_loop_example_g01384_impl_errNoYarn)] [.data, .data, .data, .sentinel, .sentinel, .sentinel, .sentinel, .sentinel, .sentinel] true :=
  Program.laidByTextLater.sub seatTie1 ["math/bits.deBruijn32tab", "math/bits.deBruijn64tab", "internal/strconv.uint64pow10", "loop.example/g01384/impl.errNotValid", "loop.example/g01384/impl.errOutOfRange", "loop.example/g01384/impl.errTooMany", "loop.example/g01384/impl.errNoPlies", "loop.example/g01384/impl.errNothingLeft", "loop.example/g01384/impl.errNoYarn"] (by kernel_rfl) (by kernel_rfl)
theorem fnExactFabricText_row_tie : Rows.fnExactFabricTextRow.laidByTextAt .later Tryd.pinned [.data, .data, .data, .sentinel, .sentinel, .sentinel, .sentinel, .sentinel, .sentinel] true :=
  OpenClaim.laidByTextAt_later rfl rfl tie noOwnUnsafe
theorem fnExactFabricTextUpto_row_tie : Rows.fnExactFabricTextUptoRow.laidByTextAt .later Tryd.pinned [.data, .data, .data, .sentinel, .sentinel, .sentinel, .sentinel, .sentinel, .sentinel] true :=
  OpenClaim.laidByTextAt_later rfl rfl tie noOwnUnsafe
end Go.Proofs.YtcgcaghmpegehaaDoor
