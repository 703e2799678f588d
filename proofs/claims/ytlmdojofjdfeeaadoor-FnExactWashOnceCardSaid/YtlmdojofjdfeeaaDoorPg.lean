/-
  No statement is proved here: slices of progs (structs of three int8s), that came in or that the call itself made; no condition.
-/
import Derived.Test.YtlmdojofjdfeeaaDoorIn
import Derived.Deep.Slices
import Derived.Deep.Fields
import Derived.ChangeSame
import Derived.Laws.OwnMore
namespace Go.Proofs.YtlmdojofjdfeeaaDoor
open Go.ChangeShapes Go.WideShapes Go.ChangeAt Go.RowKit

/-- A yarn: its length, its turns and its grams. -/
abbrev Pg := Int × Int × Int
def cellsP (ys : List Pg) : List Value := ys.flatMap fun y => [.int .i8 y.1, .int .i8 y.2.1, .int .i8 y.2.2]
def pat (ys : List Pg) (j : Nat) : Pg := ys.getD j (0, 0, 0)
def Is8P (y : Pg) : Prop := (-128 ≤ y.1 ∧ y.1 ≤ 127) ∧ (-128 ≤ y.2.1 ∧ y.2.1 ≤ 127) ∧ (-128 ≤ y.2.2 ∧ y.2.2 ≤ 127)
theorem cellsP_cons (y : Pg) (ys : List Pg) : cellsP (y :: ys) = .int .i8 y.1 :: .int .i8 y.2.1 :: .int .i8 y.2.2 :: cellsP ys := rfl
theorem cellsP_length (ys : List Pg) : (cellsP ys).length = ys.length * 3 := by
  induction ys with
  | nil => rfl
  | cons y ys ih => rw [cellsP_cons]; simp only [List.length_cons, ih]; omega
theorem cellsP_get : ∀ (ys : List Pg) (j : Nat), j < ys.length →
    (cellsP ys)[j * 3]? = some (.int .i8 (pat ys j).1) ∧ (cellsP ys)[j * 3 + 1]? = some (.int .i8 (pat ys j).2.1) ∧ (cellsP ys)[j * 3 + 2]? = some (.int .i8 (pat ys j).2.2)
  | [], j, h => by simp at h
  | y :: ys, 0, _ => by rw [cellsP_cons]; exact ⟨rfl, rfl, rfl⟩
  | y :: ys, j + 1, h => by
    have ih := cellsP_get ys j (by simpa using h)
    have e : pat (y :: ys) (j + 1) = pat ys j := rfl
    rw [cellsP_cons, e, show (j + 1) * 3 = j * 3 + 1 + 1 + 1 by omega]
    exact ⟨by simpa using ih.1, by simpa using ih.2.1, by simpa using ih.2.2⟩

/-- A slice of progs: what its cells hold. -/
def Progs (w : World) (v : Value) (ys : List Pg) : Prop :=
  (∀ j, Is8P (pat ys j)) ∧ ((∃ a cap, v = .slice a 0 cap ∧ ys = []) ∨
  ∃ b off cap, v = .slice (some ⟨b, off, none⟩) ys.length cap ∧ 0 < ys.length ∧ b < w.heap.size ∧
    ∀ j, j < ys.length → w.cell? ⟨b, off + j * 3, none⟩ = some (.int .i8 (pat ys j).1) ∧ w.cell? ⟨b, off + j * 3 + 1, none⟩ = some (.int .i8 (pat ys j).2.1) ∧ w.cell? ⟨b, off + j * 3 + 2, none⟩ = some (.int .i8 (pat ys j).2.2))
theorem Progs.below {w w' : World} {v : Value} {ys : List Pg} (h : Progs w v ys) (hB : Below w.heap.size w w') : Progs w' v ys := by
  obtain ⟨hr, h | ⟨b, off, cap, rfl, h0, hb, hc⟩⟩ := h
  · exact ⟨hr, .inl h⟩
  · exact ⟨hr, .inr ⟨b, off, cap, rfl, h0, Nat.lt_of_lt_of_le hb hB.size, fun j hj => ⟨(hB.cell (p := ⟨b, _, none⟩) hb).trans (hc j hj).1, (hB.cell (p := ⟨b, _, none⟩) hb).trans (hc j hj).2.1, (hB.cell (p := ⟨b, _, none⟩) hb).trans (hc j hj).2.2⟩⟩⟩
theorem Progs.len {w : World} {v : Value} {ys : List Pg} (h : Progs w v ys) : ∃ a cap, v = .slice a ys.length cap := by
  obtain ⟨_, ⟨a, cap, rfl, rfl⟩ | ⟨b, off, cap, rfl, _⟩⟩ := h
  · exact ⟨_, _, rfl⟩
  · exact ⟨_, _, rfl⟩
theorem Progs.nil {w : World} {v : Value} (h : Progs w v []) : ∃ a cap, v = .slice a 0 cap := h.len
theorem Progs.pos {w : World} {v : Value} {ys : List Pg} (h : Progs w v ys) (h0 : 0 < ys.length) : ∃ b off cap, v = .slice (some ⟨b, off, none⟩) ys.length cap ∧ b < w.heap.size ∧
    ∀ j, j < ys.length → w.cell? ⟨b, off + j * 3, none⟩ = some (.int .i8 (pat ys j).1) ∧ w.cell? ⟨b, off + j * 3 + 1, none⟩ = some (.int .i8 (pat ys j).2.1) ∧ w.cell? ⟨b, off + j * 3 + 2, none⟩ = some (.int .i8 (pat ys j).2.2) := by
  obtain ⟨_, ⟨a, cap, rfl, rfl⟩ | ⟨b, off, cap, rfl, _, hb, hc⟩⟩ := h
  · simp at h0
  · exact ⟨_, _, _, rfl, hb, hc⟩
theorem Progs.is16 {w : World} {v : Value} {ys : List Pg} (h : Progs w v ys) (j : Nat) : Is8P (pat ys j) := h.1 j

/-- A slice of progs that the call itself has made, from block base on. -/
def OwnP (w : World) (base : Nat) (v : Value) (ys : List Pg) : Prop := (∀ j, Is8P (pat ys j)) ∧ w.ownsRow base 33 3 v ys.length (cellsP ys)
theorem OwnP.row {w : World} {base : Nat} {v : Value} {ys : List Pg} (h : OwnP w base v ys) : w.ownsRow base 33 3 v ys.length (cellsP ys) := h.2
theorem OwnP.progs {w : World} {base : Nat} {v : Value} {ys : List Pg} (h : OwnP w base v ys) : Progs w v ys := by
  refine ⟨h.1, ?_⟩
  rcases h.2.2 with ⟨rfl, hn⟩ | ⟨g, cap, cur, hv, hb, hg, _⟩
  · exact .inl ⟨_, _, rfl, List.length_eq_zero_iff.1 hn⟩
  · by_cases h0 : ys = []
    · subst h0
      exact .inl ⟨_, _, hv, rfl⟩
    · have hr := h.2
      rw [hv] at hr
      refine .inr ⟨g, 0, cap, hv, List.length_pos_iff.2 h0, lt_of_block hg, fun j hj => ?_⟩
      have hc := cellsP_get ys j hj
      simp only [Nat.zero_add]
      exact ⟨(hr.cellAt _ (by omega)).trans hc.1, (hr.cellAt _ (by omega)).trans hc.2.1, (hr.cellAt _ (by omega)).trans hc.2.2⟩
theorem OwnP.below {w w' : World} {base : Nat} {v : Value} {ys : List Pg} (h : OwnP w base v ys) (hB : Below w.heap.size w w') : OwnP w' base v ys := by
  refine ⟨h.1, h.2.1, ?_⟩
  rcases h.2.2 with h2 | ⟨g, cap, cur, hv, hg, hh, r⟩
  · exact .inl h2
  · exact .inr ⟨g, cap, cur, hv, hg, by rw [hB.block g (lt_of_block hh)]; exact hh, r⟩

section
variable {H : Type} {enc : TypeId × Value → H} {P : Program} {w : World} {base : Nat} {spare : Nat → Bool} {held : Bool}
theorem open_slice_fieldsP {t e : TypeId} {fs : Array Field} {fuel : Nat} {cs : List Value} {x : DataW H × List MemPlace} (ht : P.underlying t = some (.slice e)) (he : P.underlying e = some (.struct fs))
    (hone : Go.Deep.oneCellFields P fs = true) (hC : P.cellsOf e = fs.size) (h : DataW.trod enc P w base spare held fuel t cs = some x) :
    (cs = [.slice none 0 0] ∧ x = (.nil, [])) ∨
    ∃ (a : Addr) (len cap m : Nat) (D : Nat → DataW H) (Pl : Nat → List MemPlace), cs = [.slice (some a) len cap] ∧ base ≤ a.block ∧ len ≤ cap ∧ cap ≤ maxLen ∧ m = (if spare a.block then cap else len) ∧
      x = (.slice ((List.range len).map D) ((List.range (m - len)).map fun j => D (len + j)), MemPlace.row a (m * fs.size) ++ (List.range m).flatMap Pl) ∧
      ∀ i, i < m → ∃ (ys : List (DataW H × List MemPlace)) (n : Nat), D i = .agg (ys.map (·.1)) ∧ Pl i = ys.flatMap (·.2) ∧ ys.length = fs.size ∧
        ∀ (j : Nat) (f : Field), fs[j]? = some f → ∃ (v : Value) (y : DataW H × List MemPlace), w.cell? (a.add (i * fs.size + j)) = some v ∧ ys[j]? = some y ∧ DataW.trod enc P w base spare held n f.type [v] = some y := by
  rcases Go.Deep.open_slice ht h with h0 | ⟨a, len, cap, m, n, D, Pl, hcs, hb, hl, hm, hmm, hx, hi⟩
  · exact .inl h0
  · refine .inr ⟨a, len, cap, m, D, Pl, hcs, hb, hl, hm, hmm, by rw [hC] at hx; exact hx, fun i him => ?_⟩
    obtain ⟨cs', hc, ht'⟩ := hi i him
    rw [hC] at hc
    obtain ⟨ys, n', hn', hy, hlen, hyl, hf⟩ := DataW.trod_struct he ht'
    obtain ⟨_, hcl, hat⟩ := World.cells?_some hc
    simp only [Prod.mk.injEq] at hy
    refine ⟨ys, n', hy.1, hy.2, hyl, fun j f hj => ?_⟩
    obtain ⟨ho, hk⟩ := Go.Deep.hone_of hone j f hj
    have hjl : j < fs.size := (Array.getElem?_eq_some_iff.1 hj).1
    have hcell := hat j hjl
    have hv : cs'[j]? = some (cs'[j]'(by omega)) := List.getElem?_eq_getElem (by omega)
    have h1 := hf j f hj
    rw [ho, hk] at h1
    have hone' : (cs'.drop j).take 1 = [cs'[j]'(by omega)] := by
      rw [List.drop_eq_getElem_cons (by omega)]
      rfl
    rw [hone'] at h1
    have hys : ys[j]? = some (ys[j]'(by omega)) := List.getElem?_eq_getElem (by omega)
    refine ⟨_, _, ?_, hys, h1.trans hys⟩
    rw [← Go.Deep.add_add, hcell, hv]
end

theorem cell8 {H : Type} {enc : TypeId × Value → H} {P : Program} {w : World} {base : Nat} {sp : Nat → Bool} {held : Bool} {n : Nat} {t : TypeId} {v : Value} {y : DataW H × List MemPlace} (ht : P.underlying t = some (.int .i8)) (h : DataW.trod enc P w base sp held n t [v] = some y) :
    ∃ z, v = .int .i8 z ∧ -128 ≤ z ∧ z ≤ 127 := by
  obtain ⟨z, hz, _, hw⟩ := DataW.trod_int ht h
  simp only [List.cons.injEq, and_true] at hz
  subst hz
  have hw' : (decide ((-128 : Int) ≤ z) && decide (z ≤ 127)) = true := hw
  simp at hw'
  exact ⟨z, rfl, hw'⟩

theorem listOfP {Q : Nat → Pg → Prop} : ∀ n, (∀ i, i < n → ∃ y, Q i y) → ∃ ys : List Pg, ys.length = n ∧ ∀ i, i < n → Q i (pat ys i)
  | 0, _ => ⟨[], rfl, fun i h => by omega⟩
  | n + 1, h => by
    obtain ⟨ys, hl, hq⟩ := listOfP n fun i hi => h i (by omega)
    obtain ⟨y, hy⟩ := h n (by omega)
    refine ⟨ys ++ [y], by simp [hl], fun i hi => ?_⟩
    by_cases hin : i < n
    · have e : pat (ys ++ [y]) i = pat ys i := by
        unfold pat
        simp [List.getD, List.getElem?_append, hl, hin]
      rw [e]
      exact hq i hin
    · obtain rfl : i = n := by omega
      have e : pat (ys ++ [y]) i = y := by
        unfold pat
        simp [List.getD, hl]
      rw [e]
      exact hy

set_option maxRecDepth 100000 in
theorem open_argP {H : Type} {enc : TypeId × Value → H} {w : World} {v : Value} {d : DataW H} {p : List MemPlace} {base : Nat} (o : Value.okWide Tryd.prog w .any base 45 v) (k : DataW.Trod enc Tryd.prog w 0 (fun _ => true) true 45 v d p) : ∃ ys, Progs w v ys ∧ (ys.length : Int) ≤ 9223372036854775807 := by
  obtain ⟨m, hf⟩ := k
  have hag : ∀ cs, v ≠ .agg cs := by
    rintro cs rfl
    unfold Value.okWide at o
    rw [Tryd.underlying45] at o
    unfold Cell.okWide at o
    rw [Tryd.underlying45] at o
    unfold Cell.ok at o
    rw [Tryd.underlying45] at o
    simp at o
  have hlt := DataW.trod_lt m _ _ _ hf
  rcases open_slice_fieldsP Tryd.underlying45 Tryd.underlying31 (by kernel_rfl) (by kernel_rfl) hf with ⟨hcs, hx⟩ | ⟨a, len, cap, m', D, Pl, hcs, _, hl, hm, hz, hx, hi⟩
  · simp [Value.cells] at hcs
    exact ⟨[], ⟨by intro j; simp [pat, Is8P], .inl (by cases v <;> simp_all)⟩, by simp⟩
  · simp only [if_true] at hz
    by_cases hl0 : len = 0
    · subst hl0
      refine ⟨[], ⟨by intro j; simp [pat, Is8P], .inl ⟨some a, cap, ?_, rfl⟩⟩, by simp⟩
      cases v <;> simp_all [Value.cells]
    · obtain ⟨ys, hyl, hq⟩ := listOfP (Q := fun i y => Is8P y ∧ w.cell? (a.add (i * 3)) = some (.int .i8 y.1) ∧ w.cell? (a.add (i * 3 + 1)) = some (.int .i8 y.2.1) ∧ w.cell? (a.add (i * 3 + 2)) = some (.int .i8 y.2.2)) len fun i hil => by
        obtain ⟨zs, n, _, _, _, hcell⟩ := hi i (by omega)
        obtain ⟨v0, y0, c0, _, t0⟩ := hcell 0 _ rfl
        obtain ⟨v1, y1, c1, _, t1⟩ := hcell 1 _ rfl
        obtain ⟨v2, y2, c2, _, t2⟩ := hcell 2 _ rfl
        obtain ⟨z0, rfl, r0⟩ := cell8 Tryd.underlying23 t0
        obtain ⟨z1, rfl, r1⟩ := cell8 Tryd.underlying23 t1
        obtain ⟨z2, rfl, r2⟩ := cell8 Tryd.underlying23 t2
        exact ⟨(z0, z1, z2), ⟨r0, r1, r2⟩, c0, c1, c2⟩
      obtain ⟨b, off, spot⟩ := a
      have hspot : spot = none := by
        have := World.cell?_spot (hq 0 (by omega)).2.1
        simpa [Addr.add] using this
      subst hspot
      simp only [Prod.mk.injEq] at hx
      have hbW : b < w.heap.size := hlt (.cell b off) (by rw [hx.2]; exact List.mem_append_left _ (MemPlace.mem_row.2 ⟨0, by simp; omega, by simp⟩))
      refine ⟨ys, ⟨fun j => ?_, .inr ⟨b, off, cap, ?_, by omega, hbW, fun j hj => ?_⟩⟩, by unfold maxLen at hm; omega⟩
      · by_cases hj : j < len
        · exact (hq j hj).1
        · have : pat ys j = (0, 0, 0) := by unfold pat; simp [List.getD, List.getElem?_eq_none (show ys.length ≤ j by omega)]
          rw [this]
          simp [Is8P]
      · rw [hyl]
        cases v <;> simp_all [Value.cells]
      · have := hq j (by omega)
        simp only [add_plain, ← Nat.add_assoc] at this
        exact this.2
end Go.Proofs.YtlmdojofjdfeeaaDoor
