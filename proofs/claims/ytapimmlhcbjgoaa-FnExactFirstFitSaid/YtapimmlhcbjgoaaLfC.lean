/-
  No statement is proved here: the library's Clone at a stock; condition: at most 1048576 lots.
-/
import Derived.Test.YtapimmlhcbjgoaaLfM
import Derived.Laws.OwnMore
namespace Go.Proofs.Ytapimmlhcbjgoaa
open Go.ChangeShapes Go.WideShapes Go.ChangeAt Go.RowKit

theorem grown_alC {w w' : World} {o : Obj} {row : Option Nat} (h : (w.alloc o).grownBy w' row) : w.grownBy w' row := grown_tr (World.grownBy_alloc w o row) h
theorem cellsLt_one (ys : List Lt) : ∀ u ∈ cellsLt ys, u.oneCell' = true := by
  induction ys with
  | nil => intro u hu; simp [cellsLt] at hu
  | cons y ys ih =>
    intro u hu
    rw [cellsLt_cons] at hu
    simp only [List.mem_cons] at hu
    rcases hu with rfl | rfl | hu
    · rfl
    · rfl
    · exact ih u hu
theorem Lts.news {w : World} {ad : Addr} {n cap : Nat} {ys : List Lt} (h : Lts w (.slice (some ad) n cap) ys) : ∀ j u, (cellsLt ys)[j]? = some u → w.cell? (ad.add j) = some u := by
  rcases h.2 with ⟨a', c', e, rfl⟩ | ⟨b, off, c', e, _, hb, hc⟩
  · intro j u hu
    simp [cellsLt] at hu
  · simp only [Value.slice.injEq, Option.some.injEq] at e
    obtain ⟨rfl, _, _⟩ := e
    intro j u hu
    have hj : j < ys.length * 2 := by
      have := (List.getElem?_eq_some_iff.1 hu).1
      rwa [cellsLt_length] at this
    have h1 := hc (j / 2) (by omega)
    have h2 := cellsLt_get ys (j / 2) (by omega)
    have h3 : j % 2 = 0 ∨ j % 2 = 1 := by omega
    rw [add_plain]
    rcases h3 with h3 | h3
    · have g1 := h1.1
      have g2 := h2.1
      rw [show off + j / 2 * 2 = off + j by omega] at g1
      rw [show j / 2 * 2 = j by omega, hu] at g2
      rw [g1, ← g2]
    · have g1 := h1.2
      have g2 := h2.2
      rw [show off + j / 2 * 2 + 1 = off + j by omega] at g1
      rw [show j / 2 * 2 + 1 = j by omega, hu] at g2
      rw [g1, ← g2]

set_option maxRecDepth 100000 in
set_option maxHeartbeats 2000000 in
theorem cloneLt_any (v : Value) (ys : List Lt) (w : World) (h : Lts w v ys) (hn : ys.length ≤ 1048576) :
    Calls Try.prog 34 #[v] w fun e w' => ∃ r, e = .returned r ∧ OwnLt w' w.heap.size r ys ∧ Below w.heap.size w w' := by
  obtain ⟨i0, hi, hz0, hz1, hz2⟩ := info_parts infoLot
  have H16 := Lib.hid h.1
  obtain ⟨a, cap, rfl⟩ := h.len
  cases a with
  | none =>
    have hx : ys = [] := by
      rcases h.2 with ⟨a', c', _, rfl⟩ | ⟨b, off, c', e, _⟩
      · rfl
      · simp at e
    subst hx
    clear h
    have hnil : ∀ wx : World, (Go.binOp BinOp.eql 58 (Value.slice none 0 cap) (Value.slice none 0 0)).run Try.prog wx = .ok (.bool true) wx := fun wx => by
      first | kernel_rfl | rfl | (simp [go_sem, Try.underlying58])
    show Calls Try.prog _ #[.slice none 0 cap] _ _
    go_enter Try.func34, Try.ntmps34
    go_wp2_with fail
    go_returns
    exact ⟨_, rfl, ⟨H16.out, by simpa [cellsLt] using World.ownsRow_nil _ _ _ _⟩, Below.refl _ _⟩
  | some ad =>
    have N1 := Lib.hid (h.below ((Below.refl w.heap.size w).alloc (Nat.le_refl _) (.cells #[] 46))).news
    have O1 := Lib.hid (World.ownsRow_made (base := w.heap.size) (e := 46) (size := 2) w #[] 0 (Nat.le_refl _) (by decide) rfl)
    have HM := Lib.hid (cellsLt_length ys)
    have H1 := Lib.hid (cellsLt_one ys)
    unfold OwnLt
    obtain ⟨n, hln⟩ : ∃ n, n = ys.length := ⟨_, rfl⟩
    rw [← hln] at hn HM ⊢
    have hnil : ∀ wx : World, (Go.binOp BinOp.eql 58 (Value.slice (some ad) n cap) (Value.slice none 0 0)).run Try.prog wx = .ok (.bool false) wx := fun wx => by
      first | kernel_rfl | rfl | (simp [go_sem, Try.underlying58])
    clear hln h
    go_enter Try.func34, Try.ntmps34
    go_wp2_with (first
      | (at_builtin; refine wpList_append_own _ rfl _ _ 58 rfl w.heap.size 46 i0 (.agg #[.int .i8 0, .int .i16 0]) 2 4 Try.underlying58 hi hz0 hz1 hz2 rfl (by decide) (.slice (some ⟨w.heap.size, 0, none⟩) 0 0) 0 [] rfl O1.out ad n cap (cellsLt ys) rfl HM.out N1.out H1.out (by unfold maxLen; omega) (by omega) (by simp) ?_; intro v2 w2 hown2 hgrow2 _)
      | go_in)
    go_returns
    refine ⟨_, rfl, ⟨H16.out, ?_⟩, (Below.refl _ _).grown (grown_alC hgrow2) (Nat.le_refl _) (fun k hk => ?_)⟩
    · simpa using hown2
    · exact Nat.le_of_eq (Option.some.inj hk)
end Go.Proofs.Ytapimmlhcbjgoaa
