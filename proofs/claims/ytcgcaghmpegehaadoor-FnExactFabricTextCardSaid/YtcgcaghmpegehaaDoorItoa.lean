/-
  No statement is proved here: what strconv.Itoa answers, and the table that it reads; condition: the table of powers holds what its text lays.
-/
import Derived.Test.YtcgcaghmpegehaaDoorTextG
import Derived.Test.YtcgcaghmpegehaaDoorShelf
import Derived.Lib.LaidTab
namespace Go.Proofs.YtcgcaghmpegehaaDoor
open Go.ChangeShapes Go.WideShapes Go.ChangeAt Go.RowKit
open Go.Sort (grow)

theorem grown_of_below {w w' : World} (h : Below w.heap.size w w') (row : Option Nat) : w.grownBy w' row := ⟨h.os, h.tape, h.output, h.size, fun k hk _ => h.block k hk⟩
theorem below_grow0 (w : World) (os : Array Obj) : Below w.heap.size w (grow w os) :=
  ⟨rfl, rfl, rfl, by simp [grow], fun j hj => by simp [grow, Array.getElem?_append_left, hj]⟩
theorem below_drewN (w : World) : ∀ k, Below w.heap.size w (w.drewN k)
  | 0 => Below.refl _ _
  | k + 1 => (below_drewN w k).drew
theorem below_grow (w : World) (k : Nat) (os : Array Obj) : Below w.heap.size w (grow (w.drewN k) os) :=
  (below_drewN w k).trans ((below_grow0 (w.drewN k) os).mono (below_drewN w k).size)
theorem tab_below {w w' : World} {name : String} {k : IntKind} {ns : List Int} (h : Lib.TabIs Tryd.prog w name k ns) (hB : Below w.heap.size w w') : Lib.TabIs Tryd.prog w' name k ns := by
  unfold Lib.TabIs at h ⊢
  unfold World.var? at h ⊢
  cases hg : Tryd.prog.globalNamed name with
  | none => simp [hg] at h
  | some g =>
    simp only [hg, Option.bind_some] at h ⊢
    have hlt : g < w.heap.size := by
      rcases Nat.lt_or_ge g w.heap.size with h' | h'
      · exact h'
      · simp [Array.getElem?_eq_none h'] at h
    rw [hB.block g hlt]
    exact h

theorem tab_set {w : World} {name : String} {k : IntKind} {ns : List Int} {a : Addr} {u : Value} (h : Lib.TabIs Tryd.prog w name k ns) (hlt : ∀ g, Tryd.prog.globalNamed name = some g → g ≠ a.block) : Lib.TabIs Tryd.prog (w.setCell a u) name k ns := by
  unfold Lib.TabIs at h ⊢
  unfold World.var? at h ⊢
  cases hg : Tryd.prog.globalNamed name with
  | none => simp [hg] at h
  | some g =>
    simp only [hg, Option.bind_some] at h ⊢
    rw [Below.heap_setCell _ _ _ _ (hlt g hg)]
    exact h
theorem tab_lt {w : World} {name : String} {k : IntKind} {ns : List Int} (h : Lib.TabIs Tryd.prog w name k ns) : ∀ g, Tryd.prog.globalNamed name = some g → g < w.heap.size := by
  intro g hg
  unfold Lib.TabIs World.var? at h
  simp only [hg, Option.bind_some] at h
  rcases Nat.lt_or_ge g w.heap.size with h' | h'
  · exact h'
  · simp [Array.getElem?_eq_none h'] at h

theorem itoa_any (q : Nat) (hq : q ≤ 1000000) (w : World) (ht : Lib.TabIs Tryd.prog w "internal/strconv.uint64pow10" .u64 Lib.pow10Tab) :
    Calls Tryd.prog 14 #[.int .i64 q] w fun e w' => e = .returned (.string ⟨(Lib.decDigits q).toArray⟩) ∧ Below w.heap.size w w' := by
  have h := Tryd.strconv_Itoa (q : Int) (by omega) (by omega) w ht
  rw [Lib.itoa_nonneg] at h
  exact h.mono fun e w' ⟨he, k, os, hw⟩ => ⟨he, hw ▸ below_grow w k os⟩
end Go.Proofs.YtcgcaghmpegehaaDoor
