/-
  No statement is proved here: how many loops there are in each row, in the program; condition: its errors lie where its text lays them; at most 1048576 rows of at most 1048576 bytes.
-/
import Derived.Test.YtokngocokiekeaaDoorWidS
import Derived.Test.YtokngocokiekeaaDoorKnitP
namespace Go.Proofs.YtokngocokiekeaaDoor
open Go.ChangeShapes Go.WideShapes Go.ChangeAt Go.RowKit

set_option maxRecDepth 100000 in
set_option maxHeartbeats 4000000 in
theorem implWidths_any (p : Nat → Addr) (c : Int) (v : Value) (L : List ByteArray) (w : World) (hs : Sent w p) (hc : -32768 ≤ c ∧ c ≤ 32767) (h : Strs w v L) (hn : L.length ≤ 1048576) (hsz : ∀ j, j < L.length → (rowAt L j).size ≤ 1048576) :
    Calls Tryd.prog 23 #[.agg #[.int .i16 c, v]] w fun e w' => ∃ r, e = .returned (.tuple #[r, .int .i64 (widF c L).2]) ∧ Own w' w.heap.size r (widF c L).1 ∧ Below w.heap.size w w' := by
  have B0 : Hid (Below w.heap.size w (w.alloc (.cells #[.int .i16 c, v] 28))) := (Below.refl w.heap.size w).alloc (Nat.le_refl _) _
  have HP := Lib.hid (piece_any p c v L (.slice none 0 0) true _ (hs.below B0.out) hc (h.below B0.out) hn hsz (fun wx _ => check0_any wx))
  have HY := Lib.hid (show widF c L = if okF c L = true then (wdsTo c L (L.length + 1), 0) else ([], 1) from rfl)
  generalize widF c L = R at *
  obtain ⟨a1, cp, rfl⟩ := h.len
  clear hs h hn hsz hc
  go_enter Tryd.func23, Tryd.ntmps23
  go_wp2_with fail
  refine HP.out.mono ?_
  rintro e w1 ⟨hB, hR⟩
  have B1 := Lib.hid (B0.out.trans (hB.mono B0.out.size))
  rcases hR with ⟨hok, rfl⟩ | ⟨hok, rv, wv, rfl, ho1, ho2, _⟩
  · rw [hok] at HY
    clear hB hok HP
    unfold pz
    go_wp2
    go_ret2
    rw [HY.out]
    exact ⟨_, rfl, World.ownsRow_nil _ _ _ _, B1.out.alloc B1.out.size _⟩
  · rw [hok] at HY
    have O2 := Lib.hid (ho2.mono (base' := w.heap.size) B0.out.size)
    obtain ⟨ra, rc, rfl⟩ : ∃ ra rc, rv = .slice ra L.length rc := ho1.strs.len
    obtain ⟨wa, wc, rfl⟩ : ∃ wa wc, wv = .slice wa (wdsTo c L (L.length + 1)).length wc := ho2.ints.len
    obtain ⟨m, hm⟩ : ∃ m, m = (wdsTo c L (L.length + 1)).length := ⟨_, rfl⟩
    rw [← hm] at O2 ⊢
    clear hB hok HP ho1 ho2 hm
    go_wp2
    go_ret2
    rw [HY.out]
    exact ⟨_, rfl, O2.out.below ((Below.refl w1.heap.size w1).alloc (Nat.le_refl _) _), B1.out.alloc B1.out.size _⟩
end Go.Proofs.YtokngocokiekeaaDoor
