/-
  No statement is proved here: small lemmas on how arguments that are structs or arrays of integers come in, and on the numbers in them; no condition.
-/
import Derived.Test.YtekejhnhkifcfaaRows
import Derived.Handy
import Derived.Lib.Hide
import Derived.ChangeOld
import Derived.Below
import Derived.Deep.QuietTactic
import Derived.BigQuiet
import Derived.WalkSmall
namespace Go.Proofs.Ytekejhnhkifcfaa
open Go.ChangeShapes Go.WideShapes Go.ChangeAt Go.RowKit

theorem ownNone : ownKnob Try.prog.godebug = none := by kernel_rfl
theorem laidAll : laidOutB Try.prog = true := by kernel_rfl

/-- The kinds of a row of types, if all are integers. -/
def kindsOf (P : Program) (ts : List TypeId) : Option (List IntKind) := ts.mapM fun t => match P.underlying t with | some (.int k) => some k | _ => none

theorem cell_int {P : Program} {w : World} {r : Reach} {base : Nat} {t : TypeId} {k : IntKind} {v : Value} (ht : P.underlying t = some (.int k)) (h : Cell.okWide P w r base t v) : ∃ n, v = .int k n ∧ k.has n := by
  unfold Cell.okWide at h
  rw [ht] at h
  unfold Cell.ok at h
  rw [ht] at h
  cases v <;> simp_all

/-- What is said of a row of cells, each with its kind. -/
def Cells : List IntKind → List Value → Prop
  | [], vs => vs = []
  | k :: ks, vs => ∃ n rest, vs = .int k n :: rest ∧ k.has n ∧ Cells ks rest

theorem cells_of {P : Program} {w : World} {r : Reach} {base : Nat} : ∀ (ts : List TypeId) (ks : List IntKind) (vs : List Value), kindsOf P ts = some ks → vs.length = ts.length →
    (∀ (i : Nat) (v : Value), vs[i]? = some v → ∃ u, ts[i]? = some u ∧ Cell.okWide P w r base u v) → Cells ks vs
  | [], ks, vs, hk, hl, _ => by
    simp [kindsOf] at hk
    subst hk
    simpa [Cells] using hl
  | t :: ts, ks, vs, hk, hl, h => by
    cases vs with
    | nil => simp at hl
    | cons v vs =>
      simp only [kindsOf, List.mapM_cons, Option.pure_def, Option.bind_eq_bind, Option.bind_eq_some_iff] at hk
      obtain ⟨k, hk1, ks', hk2, hk3⟩ := hk
      have hks : ks = k :: ks' := by simpa using hk3.symm
      subst hks
      obtain ⟨u, hu, hc⟩ := h 0 v rfl
      simp at hu
      subst hu
      have ht : P.underlying t = some (.int k) := by
        split at hk1
        · rename_i k' e; simp at hk1; subst hk1; exact e
        · simp at hk1
      obtain ⟨n, rfl, hn⟩ := cell_int ht hc
      refine ⟨n, vs, rfl, hn, cells_of (w := w) (r := r) (base := base) ts ks' vs hk2 (by simpa using hl) fun i x hx => ?_⟩
      obtain ⟨u, hu, hc'⟩ := h (i + 1) x (by simpa using hx)
      exact ⟨u, by simpa using hu, hc'⟩

/-- A struct or an array of integers that comes in by value: its cells, written out, each within its kind. -/
theorem open_cells {P : Program} {w : World} {r : Reach} {base : Nat} {t : TypeId} {v : Value} {ts : List TypeId} {ks : List IntKind} (h : Value.okWide P w r base t v)
    (ht : (match P.underlying t with | some (.struct _) | some (.array _ _) => true | _ => false) = true)
    (hts : P.cellTypes P.depth t = some ts) (hk : kindsOf P ts = some ks) (hsz : P.cellsOf t = ts.length) : ∃ vs : List Value, v = .agg vs.toArray ∧ Cells ks vs := by
  unfold Value.okWide at h
  have h' : ∃ cs, v = .agg cs ∧ cs.size = P.cellsOf t ∧ Row.okWide P w r base t cs := by
    revert h ht
    cases P.underlying t with
    | none => simp
    | some u => cases u <;> simp
  obtain ⟨cs, rfl, hs, ts', hts', _, hcs⟩ := h'
  rw [hts] at hts'
  obtain rfl : ts = ts' := by simpa using hts'
  refine ⟨cs.toList, rfl, cells_of (w := w) (r := r) (base := base) ts ks cs.toList hk (by rw [Array.length_toList, hs, hsz]) fun i x hx => ?_⟩
  have hi : i < ts.length := by
    have := (List.getElem?_eq_some_iff.1 hx).1
    rw [Array.length_toList, hs, hsz] at this
    exact this
  have := hcs i x (by simpa using hx)
  rwa [Nat.mod_eq_of_lt hi] at this

theorem open_one {P : Program} {w : World} {r : Reach} {base : Nat} {t : TypeId} {k : IntKind} {v : Value} (ht : P.underlying t = some (.int k)) (h : Value.okWide P w r base t v) : ∃ n, v = .int k n ∧ k.has n := by
  unfold Value.okWide at h
  rw [ht] at h
  exact cell_int ht h

/-- What lies in the blocks that were there is as it was. -/
theorem bcell {W w1 : World} {B : Nat} (hb : Below B W w1) : (∀ b o, b < B → w1.cell? ⟨b, o, none⟩ = W.cell? ⟨b, o, none⟩) ∧ (∀ b o, b < B → w1.frozen? ⟨b, o, none⟩ = W.frozen? ⟨b, o, none⟩) :=
  ⟨fun b o h => hb.cell (p := ⟨b, o, none⟩) h, fun b o h => hb.frozen (p := ⟨b, o, none⟩) h⟩
/-- All cells of one block, and their marks, are as they were. -/
theorem cellsKept {W w1 : World} {B : Nat} (hB : Below B W w1) (b : Nat) (h : b < B) : (∀ o : Nat, w1.cell? ⟨b, o, none⟩ = W.cell? ⟨b, o, none⟩) ∧ (∀ o : Nat, w1.frozen? ⟨b, o, none⟩ = W.frozen? ⟨b, o, none⟩) :=
  ⟨fun o => hB.cell (p := ⟨b, o, none⟩) h, fun o => hB.frozen (p := ⟨b, o, none⟩) h⟩
theorem kept {W w' : World} {B b o : Nat} {v : Value} (hB : Below B W w') (hlt : b < B) (h : W.cell? ⟨b, o, none⟩ = some v) : w'.cell? ⟨b, o, none⟩ = some v := (hB.cell (p := ⟨b, o, none⟩) hlt).trans h
theorem bdN (w : World) (n : Nat) : Below w.heap.size w (w.drewN n) := ⟨rfl, rfl, rfl, Nat.le_refl _, fun _ _ => rfl⟩
theorem ret_int {k : IntKind} {a b : Int} (h : a = b) : Ending.returned (.int k a) = .returned (.int k b) := by rw [h]
theorem ret_two {a b c d : Int} (h : a = b) (h' : c = d) : Ending.returned (.tuple #[.int .i64 a, .int .i64 c]) = .returned (.tuple #[.int .i64 b, .int .i64 d]) := by rw [h, h']
theorem ret_bool {a b : Bool} (h : a = b) : Ending.returned (.bool a) = .returned (.bool b) := by rw [h]
theorem has_i64 {n : Int} (h : IntKind.i64.has n) : -9223372036854775808 ≤ n ∧ n ≤ 9223372036854775807 := h
theorem has_i32 {n : Int} (h : IntKind.i32.has n) : -2147483648 ≤ n ∧ n ≤ 2147483647 := h
theorem has_i8 {n : Int} (h : IntKind.i8.has n) : -128 ≤ n ∧ n ≤ 127 := h
end Go.Proofs.Ytekejhnhkifcfaa
