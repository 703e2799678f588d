/-
  No statement is proved here: whether the program finds a fabric valid; condition: its errors lie where its text lays them; at most 1048576 rows of at most 1048576 bytes.
-/
import Derived.Test.YtcgcaghmpegehaaDoorKnitP
namespace Go.Proofs.YtcgcaghmpegehaaDoor
open Go.ChangeShapes Go.WideShapes Go.ChangeAt Go.RowKit

set_option maxRecDepth 100000 in
set_option maxHeartbeats 4000000 in
theorem implValid_any (p : Nat → Addr) (c : Int) (v : Value) (L : List ByteArray) (w : World) (hs : Sent w p) (hc : -32768 ≤ c ∧ c ≤ 32767) (h : Strs w v L) (hn : L.length ≤ 1048576) (hsz : ∀ j, j < L.length → (rowAt L j).size ≤ 1048576) :
    Calls Tryd.prog 13 #[.agg #[.int .i16 c, v]] w fun e w' => e = .returned (.bool (okF c L)) ∧ Below w.heap.size w w' := by
  have B0 : Hid (Below w.heap.size w (w.alloc (.cells #[.int .i16 c, v] 28))) := (Below.refl w.heap.size w).alloc (Nat.le_refl _) _
  have HP := Lib.hid (piece_any p c v L (.slice none 0 0) true _ (hs.below B0.out) hc (h.below B0.out) hn hsz (fun wx _ => check0_any wx))
  obtain ⟨a1, cp, rfl⟩ := h.len
  clear hs h hn hsz hc
  go_enter Tryd.func13, Tryd.ntmps13
  go_wp2_with fail
  refine HP.out.mono ?_
  rintro e w1 ⟨hB, hR⟩
  have B1 := Lib.hid (B0.out.trans (hB.mono B0.out.size))
  rcases hR with ⟨hok, rfl⟩ | ⟨hok, rv, wv, rfl, ho1, ho2, _⟩
  · have HR := Lib.hid hok
    clear hB hok HP
    unfold pz
    go_wp2
    go_ret
    exact ⟨ret_bool HR.out.symm, B1.out.alloc B1.out.size _⟩
  · obtain ⟨ra, rc, rfl⟩ : ∃ ra rc, rv = .slice ra L.length rc := ho1.strs.len
    obtain ⟨wa, wc, rfl⟩ : ∃ wa wc, wv = .slice wa (wdsTo c L (L.length + 1)).length wc := ho2.ints.len
    have HR := Lib.hid hok
    clear hB hok HP ho1 ho2
    generalize (wdsTo c L (L.length + 1)).length = m at *
    go_wp2
    go_ret
    exact ⟨ret_bool HR.out.symm, B1.out.alloc B1.out.size _⟩
end Go.Proofs.YtcgcaghmpegehaaDoor
