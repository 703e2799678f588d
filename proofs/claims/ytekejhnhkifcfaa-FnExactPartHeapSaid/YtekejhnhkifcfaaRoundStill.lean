/-
  No statement is proved here: a region of reads whose order is open, walked inside a round of a range over a function.
-/
import Derived.Test.YtekejhnhkifcfaaRoundTail
namespace Go.Proofs.Ytekejhnhkifcfaa
open Go.RowKit

/-- Reads alone, in whatever order: inside a fence, too. -/
theorem in_region_still {P : Program} {F : Fence} {m : Nat} {id : Nat} {Q : Exit → Act → World → Prop} {a : Act} {w : World} {l : List Oper} (hm : P.follows .mixedOrders = true) (hB : Region.lexB .any l.toArray = true) (hp : plainAll l = true) (hL : ¬ LetsOut Q)
    (h : wpStill P l.toArray w.drew (fun a' => Q .normal a' w.drew) l a) : (Code.region id l.toArray true).wpIn F m P Q a w := by
  simp only [Region.lexB, Bool.and_eq_true] at hB
  have lex := wpAnyS_lex (md := .any) hB.1 l 0 (Array.replicate l.toArray.size false) a (by simp) (by simpa using hB.2) h
  have whole := wpAny_of_still (Q := fun a' => Q .normal a' w.drew) (Q' := Q) (fun _ h => h) _ _ _ lex
  refine wpIn_region_any hm (anyIn_of (fun i o ho => ?_) hL _ _ _ _ ?_)
  · have : o ∈ l := by
      rw [List.getElem?_toArray] at ho
      exact List.mem_of_getElem? ho
    exact List.all_eq_true.1 hp o this
  · simpa using whole
end Go.Proofs.Ytekejhnhkifcfaa
