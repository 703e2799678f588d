/-
  No statement is proved here: lists of bytes that a call makes, and the texts that they become; condition: at most 1048576 bytes.
-/
import Derived.Test.YtilbadnnmhcdoaaDoorBase
import Derived.Laws.BytesString
import Derived.Laws.Cells
import Derived.Laws.OwnMore
import Derived.OwnWalk
namespace Go.Proofs.YtilbadnnmhcdoaaDoor
open Go.ChangeShapes Go.WideShapes Go.ChangeAt Go.RowKit

def OwnB (w : World) (base : Nat) (v : Value) (zs : List Int) : Prop := w.ownsRow base 5 1 v zs.length (zs.map (Value.int .u8))
theorem OwnB.row {w : World} {base : Nat} {v : Value} {zs : List Int} (h : OwnB w base v zs) : w.ownsRow base 5 1 v zs.length (zs.map (Value.int .u8)) := h
theorem OwnB.lt {w : World} {base : Nat} {v : Value} {zs : List Int} (h : OwnB w base v zs) : ∀ k, v.ownBlock = some k → base ≤ k ∧ k < w.heap.size := World.ownsRow.lt h.row
theorem OwnB.below {w w' : World} {base : Nat} {v : Value} {zs : List Int} (h : OwnB w base v zs) (hB : Below w.heap.size w w') : OwnB w' base v zs := by
  refine ⟨h.1, ?_⟩
  rcases h.2 with h2 | ⟨g, cap, cur, hv, hg, hh, r⟩
  · exact .inl h2
  · exact .inr ⟨g, cap, cur, hv, hg, by rw [hB.block g (lt_of_block hh)]; exact hh, r⟩
theorem cellB {zs : List Int} {j : Nat} (hj : j < zs.length) : (zs.map (Value.int .u8))[j]? = some (.int .u8 (zs.getD j 0)) := by
  simp [List.getD, List.getElem?_eq_getElem hj]
/-- The text of some bytes. -/
def txB (zs : List Int) : ByteArray := ⟨(zs.map fun d => UInt8.ofNat d.toNat).toArray⟩
theorem foldl_push (zs : List Int) : ∀ r : ByteArray, zs.foldl (fun r n => r.push (UInt8.ofNat n.toNat)) r = ⟨r.data ++ (zs.map fun d => UInt8.ofNat d.toNat).toArray⟩ := by
  induction zs with
  | nil => intro r; simp
  | cons z zs ih =>
    intro r
    rw [List.foldl_cons, ih]
    simp [ByteArray.push]
theorem text_of {w : World} {base : Nat} {v : Value} {zs : List Int} (h : OwnB w base v zs) :
    (convert 91 9 v).run Tryd.prog w = .ok (.string (txB zs)) w := by
  rcases h.2 with ⟨rfl, h0⟩ | ⟨g, cap, cur, rfl, hbg, hg, hnc, hcm, hcs, htake⟩
  · have hz : zs = [] := List.length_eq_zero_iff.1 h0
    subst hz
    rw [run_convert_bytes_string _ _ _ _ _ _ _ Tryd.underlying91 Tryd.underlying5 Tryd.underlying9]
    simp [Conv.bytesToString, txB, go_sem]
    rfl
  · have hld : (loadCells ⟨g, 0, none⟩ zs.length).run Tryd.prog w = .ok (zs.map (Value.int .u8)).toArray w := by
      have := run_loadCells_list (P := Tryd.prog) w ⟨g, 0, none⟩ (zs.map (Value.int .u8)) (fun j v hv => by
        have hj : j < zs.length := by
          rcases Nat.lt_or_ge j zs.length with h | h
          · exact h
          · rw [List.getElem?_eq_none (by simpa using h)] at hv; simp at hv
        have := World.ownsRow.cellAt h.row j (by omega)
        rw [hv] at this
        rw [add_plain, Nat.zero_add]
        exact this)
      rw [List.length_map] at this
      exact this
    rw [run_convert_bytes_string _ _ _ _ _ _ _ Tryd.underlying91 Tryd.underlying5 Tryd.underlying9, run_bytesToString _ _ _ _ zs hld, foldl_push]
    simp [txB]
set_option maxRecDepth 100000 in
theorem infoU8 : (Tryd.prog.info? 5).map (fun i => (i.zero, i.size, i.bytes)) = some (some (.int .u8 0), 1, 1) := by kernel_rfl
theorem zerosB_made (n : Nat) : (madeCells #[Value.int .u8 0] (n * 1)).toList = (List.replicate n (0 : Int)).map (Value.int .u8) := by
  rw [Nat.mul_one, toList_madeCells_one]
  simp
theorem make_bytes (n : Nat) (h : n ≤ 1048576) : ∃ R : Array Value, (∀ wx : World, (Instr.makeSlice 91 (.int .i64 (n : Int)) (.int .i64 (n : Int))).run Tryd.prog wx = .ok (.slice (some ⟨wx.heap.size, 0, none⟩) n n) (wx.alloc (.cells R 5))) ∧
    ∀ wx : World, OwnB (wx.alloc (.cells R 5)) wx.heap.size (.slice (some ⟨wx.heap.size, 0, none⟩) n n) (List.replicate n 0) := by
  obtain ⟨i0, hi, hz0, hz1, hz2⟩ := info_parts infoU8
  have hrun := fun wx : World => by
    have := run_makeSlice (P := Tryd.prog) wx 91 5 i0 (.int .u8 0) Tryd.underlying91 hi hz0 .i64 .i64 (n : Int) (n : Int) (by omega) (Int.le_refl _) (by rw [hz1]; simp; omega) (by rw [hz2]; omega) (by omega)
    simpa only [Int.toNat_natCast] using this
  refine ⟨_, hrun, fun wx => ?_⟩
  obtain ⟨w', hr, ho, _⟩ := run_makeSlice_full (P := Tryd.prog) wx wx.heap.size 91 5 i0 (.int .u8 0) 1 Tryd.underlying91 hi hz0 hz1 .i64 .i64 n (by omega) (by rw [hz2]; omega) (by unfold maxLen; omega) (Nat.le_refl _)
  rw [hrun wx] at hr
  simp only [Result.ok.injEq] at hr
  obtain ⟨_, rfl⟩ := hr
  unfold OwnB
  rw [List.length_replicate, ← zerosB_made]
  exact ho
/-- The first k bytes, and zeros behind them. -/
def fillB (zs : List Int) (k : Nat) : List Int := zs.take k ++ List.replicate (zs.length - k) 0
theorem fillB_length (zs : List Int) (k : Nat) (hk : k ≤ zs.length) : (fillB zs k).length = zs.length := by simp [fillB]; omega
theorem fillB_all (zs : List Int) : fillB zs zs.length = zs := by simp [fillB]
theorem fillB_zero (zs : List Int) : fillB zs 0 = List.replicate zs.length 0 := by simp [fillB]
theorem fillB_step (zs : List Int) (k : Nat) (hk : k < zs.length) : (fillB zs k).set k (zs.getD k 0) = fillB zs (k + 1) := by
  have e1 : (zs.take k).length = k := by rw [List.length_take]; omega
  have e2 : zs.length - k = (zs.length - (k + 1)) + 1 := by omega
  have e3 : zs.take (k + 1) = zs.take k ++ [zs.getD k 0] := by
    rw [List.take_add_one, List.getElem?_eq_getElem hk, List.getD, List.getElem?_eq_getElem hk]
    rfl
  rw [fillB, fillB, List.set_append, if_neg (by omega), e1, Nat.sub_self, e2, List.replicate_succ, List.set_cons_zero, e3, List.append_assoc]
  rfl
theorem fillB_step2 (zs : List Int) (k : Nat) (x : Int) (hk : k < zs.length) : ((fillB zs k).set k x).set k (zs.getD k 0) = fillB zs (k + 1) := by
  rw [List.set_set, fillB_step zs k hk]
end Go.Proofs.YtilbadnnmhcdoaaDoor
