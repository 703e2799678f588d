/-
  No statement is proved here: slices of yarns (structs of three int16s), that came in or that the call itself made; no condition.
-/
import Derived.Test.YtljnhggblmdlnaaDoorIn
import Derived.Deep.Slices
import Derived.Deep.Fields
import Derived.ChangeSame
import Derived.Laws.OwnMore
namespace Go.Proofs.YtljnhggblmdlnaaDoor
open Go.ChangeShapes Go.WideShapes Go.ChangeAt Go.RowKit

/-- A yarn: its length, its turns and its grams. -/
abbrev Yn := Int × Int × Int
def cellsY (ys : List Yn) : List Value := ys.flatMap fun y => [.int .i16 y.1, .int .i16 y.2.1, .int .i16 y.2.2]
def yat (ys : List Yn) (j : Nat) : Yn := ys.getD j (0, 0, 0)
def Is16 (y : Yn) : Prop := (-32768 ≤ y.1 ∧ y.1 ≤ 32767) ∧ (-32768 ≤ y.2.1 ∧ y.2.1 ≤ 32767) ∧ (-32768 ≤ y.2.2 ∧ y.2.2 ≤ 32767)
theorem cellsY_cons (y : Yn) (ys : List Yn) : cellsY (y :: ys) = .int .i16 y.1 :: .int .i16 y.2.1 :: .int .i16 y.2.2 :: cellsY ys := rfl
theorem cellsY_length (ys : List Yn) : (cellsY ys).length = ys.length * 3 := by
  induction ys with
  | nil => rfl
  | cons y ys ih => rw [cellsY_cons]; simp only [List.length_cons, ih]; omega
theorem cellsY_get : ∀ (ys : List Yn) (j : Nat), j < ys.length →
    (cellsY ys)[j * 3]? = some (.int .i16 (yat ys j).1) ∧ (cellsY ys)[j * 3 + 1]? = some (.int .i16 (yat ys j).2.1) ∧ (cellsY ys)[j * 3 + 2]? = some (.int .i16 (yat ys j).2.2)
  | [], j, h => by simp at h
  | y :: ys, 0, _ => by rw [cellsY_cons]; exact ⟨rfl, rfl, rfl⟩
  | y :: ys, j + 1, h => by
    have ih := cellsY_get ys j (by simpa using h)
    have e : yat (y :: ys) (j + 1) = yat ys j := rfl
    rw [cellsY_cons, e, show (j + 1) * 3 = j * 3 + 1 + 1 + 1 by omega]
    exact ⟨by simpa using ih.1, by simpa using ih.2.1, by simpa using ih.2.2⟩

/-- A slice of yarns: what its cells hold. -/
def Yarns (w : World) (v : Value) (ys : List Yn) : Prop :=
  (∀ j, Is16 (yat ys j)) ∧ ((∃ a cap, v = .slice a 0 cap ∧ ys = []) ∨
  ∃ b off cap, v = .slice (some ⟨b, off, none⟩) ys.length cap ∧ 0 < ys.length ∧ b < w.heap.size ∧
    ∀ j, j < ys.length → w.cell? ⟨b, off + j * 3, none⟩ = some (.int .i16 (yat ys j).1) ∧ w.cell? ⟨b, off + j * 3 + 1, none⟩ = some (.int .i16 (yat ys j).2.1) ∧ w.cell? ⟨b, off + j * 3 + 2, none⟩ = some (.int .i16 (yat ys j).2.2))
theorem Yarns.below {w w' : World} {v : Value} {ys : List Yn} (h : Yarns w v ys) (hB : Below w.heap.size w w') : Yarns w' v ys := by
  obtain ⟨hr, h | ⟨b, off, cap, rfl, h0, hb, hc⟩⟩ := h
  · exact ⟨hr, .inl h⟩
  · exact ⟨hr, .inr ⟨b, off, cap, rfl, h0, Nat.lt_of_lt_of_le hb hB.size, fun j hj => ⟨(hB.cell (p := ⟨b, _, none⟩) hb).trans (hc j hj).1, (hB.cell (p := ⟨b, _, none⟩) hb).trans (hc j hj).2.1, (hB.cell (p := ⟨b, _, none⟩) hb).trans (hc j hj).2.2⟩⟩⟩
theorem Yarns.len {w : World} {v : Value} {ys : List Yn} (h : Yarns w v ys) : ∃ a cap, v = .slice a ys.length cap := by
  obtain ⟨_, ⟨a, cap, rfl, rfl⟩ | ⟨b, off, cap, rfl, _⟩⟩ := h
  · exact ⟨_, _, rfl⟩
  · exact ⟨_, _, rfl⟩
theorem Yarns.nil {w : World} {v : Value} (h : Yarns w v []) : ∃ a cap, v = .slice a 0 cap := h.len
theorem Yarns.pos {w : World} {v : Value} {ys : List Yn} (h : Yarns w v ys) (h0 : 0 < ys.length) : ∃ b off cap, v = .slice (some ⟨b, off, none⟩) ys.length cap ∧ b < w.heap.size ∧
    ∀ j, j < ys.length → w.cell? ⟨b, off + j * 3, none⟩ = some (.int .i16 (yat ys j).1) ∧ w.cell? ⟨b, off + j * 3 + 1, none⟩ = some (.int .i16 (yat ys j).2.1) ∧ w.cell? ⟨b, off + j * 3 + 2, none⟩ = some (.int .i16 (yat ys j).2.2) := by
  obtain ⟨_, ⟨a, cap, rfl, rfl⟩ | ⟨b, off, cap, rfl, _, hb, hc⟩⟩ := h
  · simp at h0
  · exact ⟨_, _, _, rfl, hb, hc⟩
theorem Yarns.is16 {w : World} {v : Value} {ys : List Yn} (h : Yarns w v ys) (j : Nat) : Is16 (yat ys j) := h.1 j

/-- A slice of yarns that the call itself has made, from block base on. -/
def OwnY (w : World) (base : Nat) (v : Value) (ys : List Yn) : Prop := (∀ j, Is16 (yat ys j)) ∧ w.ownsRow base 52 3 v ys.length (cellsY ys)
theorem OwnY.row {w : World} {base : Nat} {v : Value} {ys : List Yn} (h : OwnY w base v ys) : w.ownsRow base 52 3 v ys.length (cellsY ys) := h.2
theorem OwnY.yarns {w : World} {base : Nat} {v : Value} {ys : List Yn} (h : OwnY w base v ys) : Yarns w v ys := by
  refine ⟨h.1, ?_⟩
  rcases h.2.2 with ⟨rfl, hn⟩ | ⟨g, cap, cur, hv, hb, hg, _⟩
  · exact .inl ⟨_, _, rfl, List.length_eq_zero_iff.1 hn⟩
  · by_cases h0 : ys = []
    · subst h0
      exact .inl ⟨_, _, hv, rfl⟩
    · have hr := h.2
      rw [hv] at hr
      refine .inr ⟨g, 0, cap, hv, List.length_pos_iff.2 h0, lt_of_block hg, fun j hj => ?_⟩
      have hc := cellsY_get ys j hj
      simp only [Nat.zero_add]
      exact ⟨(hr.cellAt _ (by omega)).trans hc.1, (hr.cellAt _ (by omega)).trans hc.2.1, (hr.cellAt _ (by omega)).trans hc.2.2⟩
theorem OwnY.below {w w' : World} {base : Nat} {v : Value} {ys : List Yn} (h : OwnY w base v ys) (hB : Below w.heap.size w w') : OwnY w' base v ys := by
  refine ⟨h.1, h.2.1, ?_⟩
  rcases h.2.2 with h2 | ⟨g, cap, cur, hv, hg, hh, r⟩
  · exact .inl h2
  · exact .inr ⟨g, cap, cur, hv, hg, by rw [hB.block g (lt_of_block hh)]; exact hh, r⟩

section
variable {H : Type} {enc : TypeId × Value → H} {P : Program} {w : World} {base : Nat} {spare : Nat → Bool} {held : Bool}
theorem open_slice_fields {t e : TypeId} {fs : Array Field} {fuel : Nat} {cs : List Value} {x : DataW H × List MemPlace} (ht : P.underlying t = some (.slice e)) (he : P.underlying e = some (.struct fs))
    (hone : Go.Deep.oneCellFields P fs = true) (hC : P.cellsOf e = fs.size) (h : DataW.trod enc P w base spare held fuel t cs = some x) :
    (cs = [.slice none 0 0] ∧ x = (.nil, [])) ∨
    ∃ (a : Addr) (len cap m : Nat) (D : Nat → DataW H) (Pl : Nat → List MemPlace), cs = [.slice (some a) len cap] ∧ base ≤ a.block ∧ len ≤ cap ∧ cap ≤ maxLen ∧ m = (if spare a.block then cap else len) ∧
      x = (.slice ((List.range len).map D) ((List.range (m - len)).map fun j => D (len + j)), MemPlace.row a (m * fs.size) ++ (List.range m).flatMap Pl) ∧
      ∀ i, i < m → ∃ (ys : List (DataW H × List MemPlace)) (n : Nat), D i = .agg (ys.map (·.1)) ∧ Pl i = ys.flatMap (·.2) ∧ ys.length = fs.size ∧
        ∀ (j : Nat) (f : Field), fs[j]? = some f → ∃ (v : Value) (y : DataW H × List MemPlace), w.cell? (a.add (i * fs.size + j)) = some v ∧ ys[j]? = some y ∧ DataW.trod enc P w base spare held n f.type [v] = some y := by
  rcases Go.Deep.open_slice ht h with h0 | ⟨a, len, cap, m, n, D, Pl, hcs, hb, hl, hm, hmm, hx, hi⟩
  · exact .inl h0
  · refine .inr ⟨a, len, cap, m, D, Pl, hcs, hb, hl, hm, hmm, by rw [hC] at hx; exact hx, fun i him => ?_⟩
    obtain ⟨cs', hc, ht'⟩ := hi i him
    rw [hC] at hc
    obtain ⟨ys, n', hn', hy, hlen, hyl, hf⟩ := DataW.trod_struct he ht'
    obtain ⟨_, hcl, hat⟩ := World.cells?_some hc
    simp only [Prod.mk.injEq] at hy
    refine ⟨ys, n', hy.1, hy.2, hyl, fun j f hj => ?_⟩
    obtain ⟨ho, hk⟩ := Go.Deep.hone_of hone j f hj
    have hjl : j < fs.size := (Array.getElem?_eq_some_iff.1 hj).1
    have hcell := hat j hjl
    have hv : cs'[j]? = some (cs'[j]'(by omega)) := List.getElem?_eq_getElem (by omega)
    have h1 := hf j f hj
    rw [ho, hk] at h1
    have hone' : (cs'.drop j).take 1 = [cs'[j]'(by omega)] := by
      rw [List.drop_eq_getElem_cons (by omega)]
      rfl
    rw [hone'] at h1
    have hys : ys[j]? = some (ys[j]'(by omega)) := List.getElem?_eq_getElem (by omega)
    refine ⟨_, _, ?_, hys, h1.trans hys⟩
    rw [← Go.Deep.add_add, hcell, hv]
end

theorem cell16 {H : Type} {enc : TypeId × Value → H} {P : Program} {w : World} {base : Nat} {sp : Nat → Bool} {held : Bool} {n : Nat} {t : TypeId} {v : Value} {y : DataW H × List MemPlace} (ht : P.underlying t = some (.int .i16)) (h : DataW.trod enc P w base sp held n t [v] = some y) :
    ∃ z, v = .int .i16 z ∧ -32768 ≤ z ∧ z ≤ 32767 := by
  obtain ⟨z, hz, _, hw⟩ := DataW.trod_int ht h
  simp only [List.cons.injEq, and_true] at hz
  subst hz
  have hw' : (decide ((-32768 : Int) ≤ z) && decide (z ≤ 32767)) = true := hw
  simp at hw'
  exact ⟨z, rfl, hw'⟩

theorem listOf {Q : Nat → Yn → Prop} : ∀ n, (∀ i, i < n → ∃ y, Q i y) → ∃ ys : List Yn, ys.length = n ∧ ∀ i, i < n → Q i (yat ys i)
  | 0, _ => ⟨[], rfl, fun i h => by omega⟩
  | n + 1, h => by
    obtain ⟨ys, hl, hq⟩ := listOf n fun i hi => h i (by omega)
    obtain ⟨y, hy⟩ := h n (by omega)
    refine ⟨ys ++ [y], by simp [hl], fun i hi => ?_⟩
    by_cases hin : i < n
    · have e : yat (ys ++ [y]) i = yat ys i := by
        unfold yat
        simp [List.getD, List.getElem?_append, hl, hin]
      rw [e]
      exact hq i hin
    · obtain rfl : i = n := by omega
      have e : yat (ys ++ [y]) i = y := by
        unfold yat
        simp [List.getD, hl]
      rw [e]
      exact hy

set_option maxRecDepth 100000 in
theorem open_argY {H : Type} {enc : TypeId × Value → H} {w : World} {v : Value} {d : DataW H} {p : List MemPlace} {base : Nat} (o : Value.okWide Tryd.prog w .any base 31 v) (k : DataW.Trod enc Tryd.prog w 0 (fun _ => true) true 31 v d p) : ∃ ys, Yarns w v ys ∧ (ys.length : Int) ≤ 9223372036854775807 := by
  obtain ⟨m, hf⟩ := k
  have hag : ∀ cs, v ≠ .agg cs := by
    rintro cs rfl
    unfold Value.okWide at o
    rw [Tryd.underlying31] at o
    unfold Cell.okWide at o
    rw [Tryd.underlying31] at o
    unfold Cell.ok at o
    rw [Tryd.underlying31] at o
    simp at o
  have hlt := DataW.trod_lt m _ _ _ hf
  rcases open_slice_fields Tryd.underlying31 Tryd.underlying54 (by kernel_rfl) (by kernel_rfl) hf with ⟨hcs, hx⟩ | ⟨a, len, cap, m', D, Pl, hcs, _, hl, hm, hz, hx, hi⟩
  · simp [Value.cells] at hcs
    exact ⟨[], ⟨by intro j; simp [yat, Is16], .inl (by cases v <;> simp_all)⟩, by simp⟩
  · simp only [if_true] at hz
    by_cases hl0 : len = 0
    · subst hl0
      refine ⟨[], ⟨by intro j; simp [yat, Is16], .inl ⟨some a, cap, ?_, rfl⟩⟩, by simp⟩
      cases v <;> simp_all [Value.cells]
    · obtain ⟨ys, hyl, hq⟩ := listOf (Q := fun i y => Is16 y ∧ w.cell? (a.add (i * 3)) = some (.int .i16 y.1) ∧ w.cell? (a.add (i * 3 + 1)) = some (.int .i16 y.2.1) ∧ w.cell? (a.add (i * 3 + 2)) = some (.int .i16 y.2.2)) len fun i hil => by
        obtain ⟨zs, n, _, _, _, hcell⟩ := hi i (by omega)
        obtain ⟨v0, y0, c0, _, t0⟩ := hcell 0 _ rfl
        obtain ⟨v1, y1, c1, _, t1⟩ := hcell 1 _ rfl
        obtain ⟨v2, y2, c2, _, t2⟩ := hcell 2 _ rfl
        obtain ⟨z0, rfl, r0⟩ := cell16 Tryd.underlying50 t0
        obtain ⟨z1, rfl, r1⟩ := cell16 Tryd.underlying50 t1
        obtain ⟨z2, rfl, r2⟩ := cell16 Tryd.underlying50 t2
        exact ⟨(z0, z1, z2), ⟨r0, r1, r2⟩, c0, c1, c2⟩
      obtain ⟨b, off, spot⟩ := a
      have hspot : spot = none := by
        have := World.cell?_spot (hq 0 (by omega)).2.1
        simpa [Addr.add] using this
      subst hspot
      simp only [Prod.mk.injEq] at hx
      have hbW : b < w.heap.size := hlt (.cell b off) (by rw [hx.2]; exact List.mem_append_left _ (MemPlace.mem_row.2 ⟨0, by simp; omega, by simp⟩))
      refine ⟨ys, ⟨fun j => ?_, .inr ⟨b, off, cap, ?_, by omega, hbW, fun j hj => ?_⟩⟩, by unfold maxLen at hm; omega⟩
      · by_cases hj : j < len
        · exact (hq j hj).1
        · have : yat ys j = (0, 0, 0) := by unfold yat; simp [List.getD, List.getElem?_eq_none (show ys.length ≤ j by omega)]
          rw [this]
          simp [Is16]
      · rw [hyl]
        cases v <;> simp_all [Value.cells]
      · have := hq j (by omega)
        simp only [add_plain, ← Nat.add_assoc] at this
        exact this.2
end Go.Proofs.YtljnhggblmdlnaaDoor
