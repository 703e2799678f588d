/-
  No statement is proved here: slices of int64s, that came in or that the call itself made, and the copy that the law makes of one; condition: at most 1048576 numbers where memory is laid.
-/
import Derived.Test.YtcgcaghmpegehaaDoorBase
namespace Go.Proofs.YtcgcaghmpegehaaDoor
open Go.ChangeShapes Go.WideShapes Go.ChangeAt Go.RowKit


/-- A slice of int64s: what its cells hold. -/
def Ints (w : World) (v : Value) (zs : List Int) : Prop :=
  (∃ a cap, v = .slice a 0 cap ∧ zs = []) ∨
  ∃ b off cap, v = .slice (some ⟨b, off, none⟩) zs.length cap ∧ 0 < zs.length ∧ b < w.heap.size ∧ ∀ j, j < zs.length → w.cell? ⟨b, off + j, none⟩ = some (.int .i64 (zs.getD j 0))
theorem Ints.below {w w' : World} {v : Value} {zs : List Int} (h : Ints w v zs) (hB : Below w.heap.size w w') : Ints w' v zs := by
  rcases h with h | ⟨b, off, cap, rfl, h0, hb, hc⟩
  · exact .inl h
  · exact .inr ⟨b, off, cap, rfl, h0, Nat.lt_of_lt_of_le hb hB.size, fun j hj => (hB.cell (p := ⟨b, off + j, none⟩) hb).trans (hc j hj)⟩
/-- A slice of int64s that the call itself has made, from block base on. -/
def Own (w : World) (base : Nat) (v : Value) (zs : List Int) : Prop := w.ownsRow base 2 1 v zs.length (zs.map (Value.int .i64))
theorem Own.row {w : World} {base : Nat} {v : Value} {zs : List Int} (h : Own w base v zs) : w.ownsRow base 2 1 v zs.length (zs.map (Value.int .i64)) := h
theorem cellOf {zs : List Int} {j : Nat} (hj : j < zs.length) : (zs.map (Value.int .i64))[j]? = some (.int .i64 (zs.getD j 0)) := by
  simp [List.getD, List.getElem?_eq_getElem hj]
theorem Own.block {w : World} {base : Nat} {v : Value} {zs : List Int} (h : Own w base v zs) :
    (zs = [] ∧ v = .slice none 0 0) ∨ ∃ g cap, v = .slice (some ⟨g, 0, none⟩) zs.length cap ∧ base ≤ g ∧ g < w.heap.size ∧ v.ownBlock = some g ∧ (∀ j, j < zs.length → w.cell? ⟨g, j, none⟩ = some (.int .i64 (zs.getD j 0))) ∧ ∀ j : Nat, w.frozen? ⟨g, j, none⟩ = false := by
  rcases h.2 with ⟨rfl, hn⟩ | ⟨g, cap, cur, rfl, hb, hg, _⟩
  · exact .inl ⟨List.length_eq_zero_iff.1 hn, rfl⟩
  · exact .inr ⟨g, cap, rfl, hb, lt_of_block hg, rfl, fun j hj => (h.row.cellAt j (by omega)).trans (cellOf hj), fun j => h.row.frozenAt j⟩
theorem Own.ints {w : World} {base : Nat} {v : Value} {zs : List Int} (h : Own w base v zs) : Ints w v zs := by
  rcases h.block with ⟨rfl, rfl⟩ | ⟨g, cap, rfl, _, hg, _, hc, _⟩
  · exact .inl ⟨_, _, rfl, rfl⟩
  · by_cases h0 : zs = []
    · subst h0
      exact .inl ⟨_, _, rfl, rfl⟩
    · exact .inr ⟨g, 0, cap, rfl, List.length_pos_iff.2 h0, hg, fun j hj => by rw [Nat.zero_add]; exact hc j hj⟩
theorem Own.lt {w : World} {base : Nat} {v : Value} {zs : List Int} (h : Own w base v zs) : ∀ k, v.ownBlock = some k → base ≤ k ∧ k < w.heap.size := World.ownsRow.lt h.row
theorem Own.mono {w : World} {base base' : Nat} {v : Value} {zs : List Int} (h : Own w base v zs) (hb : base' ≤ base) : Own w base' v zs := by
  refine ⟨h.1, ?_⟩
  rcases h.2 with h2 | ⟨g, cap, cur, hv, hg, r⟩
  · exact .inl h2
  · exact .inr ⟨g, cap, cur, hv, Nat.le_trans hb hg, r⟩
theorem Own.kept {w w' : World} {base : Nat} {v : Value} {zs : List Int} {row : Option Nat} (h : Own w base v zs) (hg : w.grownBy w' row) (hne : v.ownBlock = none ∨ v.ownBlock ≠ row) : Own w' base v zs := World.ownsRow.kept h.row hg hne
theorem Own.below {w w' : World} {base : Nat} {v : Value} {zs : List Int} (h : Own w base v zs) (hB : Below w.heap.size w w') : Own w' base v zs := by
  refine ⟨h.1, ?_⟩
  rcases h.2 with h2 | ⟨g, cap, cur, hv, hg, hh, r⟩
  · exact .inl h2
  · exact .inr ⟨g, cap, cur, hv, hg, by rw [hB.block g (lt_of_block hh)]; exact hh, r⟩
/-- What lies from base on is no block of what was there. -/
theorem Own.apart {w w' : World} {b1 b2 : Nat} {v1 v2 : Value} {z1 z2 : List Int} (h1 : Own w b1 v1 z1) (h2 : Own w' b2 v2 z2) (hle : w.heap.size ≤ b2) : v2.ownBlock = none ∨ v2.ownBlock ≠ v1.ownBlock := by
  cases e2 : v2.ownBlock with
  | none => exact .inl rfl
  | some k =>
    refine .inr fun e => ?_
    have := (h2.lt k e2).1
    have := (h1.lt k e.symm).2
    omega
theorem Own.apart' {w w' : World} {b1 b2 : Nat} {v1 v2 : Value} {z1 z2 : List Int} (h1 : Own w b1 v1 z1) (h2 : Own w' b2 v2 z2) (hle : w.heap.size ≤ b2) : v1.ownBlock = none ∨ v1.ownBlock ≠ v2.ownBlock := by
  cases e2 : v1.ownBlock with
  | none => exact .inl rfl
  | some k =>
    refine .inr fun e => ?_
    have := (h2.lt k e.symm).1
    have := (h1.lt k e2).2
    omega
theorem Ints.grown {w w' : World} {base : Nat} {v v0 : Value} {zs z0 : List Int} (h : Ints w v zs) (h0 : Own w' base v0 z0) (hle : w.heap.size ≤ base) {w'' : World} (hB : Below w.heap.size w w') (hg : w'.grownBy w'' v0.ownBlock) : Ints w'' v zs := by
  rcases h with h | ⟨b, off, cap, rfl, hl, hb, hc⟩
  · exact .inl h
  · have hs := hB.size
    have hbk : w''.heap[b]? = w'.heap[b]? := hg.block b (by omega) fun e => by
      have := (h0.lt b e.symm).1
      omega
    refine .inr ⟨b, off, cap, rfl, hl, ?_, fun j hj => ?_⟩
    · have := hg.size
      omega
    · exact (World.cell?_of_block (w := w') (a := ⟨b, off + j, none⟩) hbk).trans ((hB.cell (p := ⟨b, off + j, none⟩) hb).trans (hc j hj))
theorem below_of_grown {w w' : World} {base : Nat} {v : Value} {zs : List Int} {B : Nat} (h : Own w base v zs) (hg : w.grownBy w' v.ownBlock) (hle : B ≤ base) (hs : B ≤ w.heap.size) : Below B w w' :=
  (Below.refl _ _).grown hg hs fun k hk => Nat.le_trans hle (h.lt k hk).1

set_option maxRecDepth 100000 in
theorem open_arg {H : Type} {enc : TypeId × Value → H} {w : World} {v : Value} {d : DataW H} {p : List MemPlace} {base : Nat} (o : Value.okWide Tryd.prog w .any base 44 v) (k : DataW.Trod enc Tryd.prog w 0 (fun _ => true) true 44 v d p) : ∃ zs, Ints w v zs := by
  obtain ⟨m, hf⟩ := k
  have hag : ∀ cs, v ≠ .agg cs := by
    rintro cs rfl
    unfold Value.okWide at o
    rw [Tryd.underlying44] at o
    unfold Cell.okWide at o
    rw [Tryd.underlying44] at o
    unfold Cell.ok at o
    rw [Tryd.underlying44] at o
    simp at o
  have hlt := DataW.trod_lt m _ _ _ hf
  rcases open_ints Tryd.underlying44 Tryd.underlying2 (by kernel_rfl) hf with ⟨hcs, hx⟩ | ⟨a, len, cap, zs, hcs, _, hl, hm, hz, hx, hcell, hwz⟩
  · simp [Value.cells] at hcs
    exact ⟨[], .inl (by cases v <;> simp_all)⟩
  · simp only [if_true] at hz
    by_cases hl0 : len = 0
    · subst hl0
      refine ⟨[], .inl ⟨some a, cap, ?_, rfl⟩⟩
      cases v <;> simp_all [Value.cells]
    · obtain ⟨b, off, spot⟩ := a
      have hspot : spot = none := by simpa [Addr.add] using World.cell?_spot (hcell 0 (by omega))
      subst hspot
      simp only [Prod.mk.injEq] at hx
      have hbW : b < w.heap.size := hlt (.cell b off) (by rw [hx.2]; exact MemPlace.mem_row.2 ⟨0, by omega, by simp⟩)
      have hlen : (zs.take len).length = len := by rw [List.length_take]; omega
      refine ⟨zs.take len, .inr ⟨b, off, cap, ?_, by omega, hbW, fun j hj => ?_⟩⟩
      · rw [hlen]
        cases v <;> simp_all [Value.cells]
      · rw [← add_plain, hcell j (by omega)]
        simp [List.getD, List.getElem?_take]
        rw [if_pos (by omega)]

set_option maxRecDepth 100000 in
theorem info64 : (Tryd.prog.info? 2).map (fun i => (i.zero, i.size, i.bytes)) = some (some (.int .i64 0), 1, 8) := by kernel_rfl
/-- The first k numbers, and zeros behind them. -/
def fill (zs : List Int) (k : Nat) : List Int := zs.take k ++ List.replicate (zs.length - k) 0
theorem fill_length (zs : List Int) (k : Nat) (hk : k ≤ zs.length) : (fill zs k).length = zs.length := by simp [fill]; omega
theorem fill_all (zs : List Int) : fill zs zs.length = zs := by simp [fill]
theorem fill_zero (zs : List Int) : fill zs 0 = List.replicate zs.length 0 := by simp [fill]
theorem fill_step (zs : List Int) (k : Nat) (hk : k < zs.length) : (fill zs k).set k (zs.getD k 0) = fill zs (k + 1) := by
  have e1 : (zs.take k).length = k := by rw [List.length_take]; omega
  have e2 : zs.length - k = (zs.length - (k + 1)) + 1 := by omega
  have e3 : zs.take (k + 1) = zs.take k ++ [zs.getD k 0] := by
    rw [List.take_add_one, List.getElem?_eq_getElem hk, List.getD, List.getElem?_eq_getElem hk]
    rfl
  rw [fill, fill, List.set_append, if_neg (by omega), e1, Nat.sub_self, e2, List.replicate_succ, List.set_cons_zero, e3, List.append_assoc]
  rfl
end Go.Proofs.YtcgcaghmpegehaaDoor
