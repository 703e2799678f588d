/-
  No statement is proved here: the piece of a fabric in the program, and the code that it tells; condition: its errors lie where its text lays them; at most 1048576 rows of at most 1048576 bytes.
-/
import Derived.Test.YtcgcaghmpegehaaDoorKnitL
namespace Go.Proofs.YtcgcaghmpegehaaDoor
open Go.ChangeShapes Go.WideShapes Go.ChangeAt Go.RowKit

theorem neqNil_row (k : Int) (w : World) : (binOp .neq 55 (.iface 65 (.agg #[.int .i64 k])) .nilIface).run Tryd.prog w = .ok (.bool true) w := by kernel_rfl
/-- What the program tells of a fabric, q being the code of what is asked besides. -/
def PieceR (c : Int) (L : List ByteArray) (q : Int) (B : Nat) (e : Ending) (w' : World) : Prop :=
  (okF c L = false ∧ e = .returned (.tuple #[pz, .int .i64 1])) ∨
  (okF c L = true ∧ ∃ rv wv, e = .returned (.tuple #[.agg #[.int .i64 c, rv, wv], .int .i64 q]) ∧ OwnT w' B rv L ∧ Own w' B wv (wdsTo c L (L.length + 1)) ∧ ∀ a b, rv.ownBlock = some a → wv.ownBlock = some b → a ≠ b)
/-- The result's box and the piece's box. -/
def PB (W : World) (rb pb : Nat) (x y z : Value) : Prop :=
  (W.cell? ⟨rb, 0, none⟩ = some (.int .i64 0) ∧ W.cell? ⟨rb, 1, none⟩ = some (.slice none 0 0) ∧ W.cell? ⟨rb, 2, none⟩ = some (.slice none 0 0) ∧ W.frozen? ⟨rb, 0, none⟩ = false ∧ W.frozen? ⟨rb, 1, none⟩ = false ∧ W.frozen? ⟨rb, 2, none⟩ = false) ∧
  (W.cell? ⟨pb, 0, none⟩ = some x ∧ W.cell? ⟨pb, 1, none⟩ = some y ∧ W.cell? ⟨pb, 2, none⟩ = some z) ∧ rb < W.heap.size ∧ pb < W.heap.size
theorem PB.below {W w' : World} {rb pb : Nat} {x y z : Value} (h : PB W rb pb x y z) (hB : Below W.heap.size W w') : PB w' rb pb x y z := by
  obtain ⟨⟨a0, a1, a2, f0, f1, f2⟩, ⟨b0, b1, b2⟩, l1, l2⟩ := h
  exact ⟨⟨kept hB l1 a0, kept hB l1 a1, kept hB l1 a2, (hB.frozen (p := ⟨rb, 0, none⟩) l1).trans f0, (hB.frozen (p := ⟨rb, 1, none⟩) l1).trans f1, (hB.frozen (p := ⟨rb, 2, none⟩) l1).trans f2⟩, ⟨kept hB l2 b0, kept hB l2 b1, kept hB l2 b2⟩, Nat.lt_of_lt_of_le l1 hB.size, Nat.lt_of_lt_of_le l2 hB.size⟩
theorem PB.made {W w1 : World} {rb : Nat} {t : TypeId} (x y z : Value) (hB : Below W.heap.size W w1) (hr : rb < W.heap.size) (h0 : W.cell? ⟨rb, 0, none⟩ = some (.int .i64 0)) (h1 : W.cell? ⟨rb, 1, none⟩ = some (.slice none 0 0)) (h2 : W.cell? ⟨rb, 2, none⟩ = some (.slice none 0 0))
    (hf : ∀ o : Nat, W.frozen? ⟨rb, o, none⟩ = false) : PB (w1.alloc (.cells #[x, y, z] t)) rb w1.heap.size x y z := by
  have hA : Below w1.heap.size w1 (w1.alloc (.cells #[x, y, z] t)) := (Below.refl _ _).alloc (Nat.le_refl _) _
  have B2 := hB.trans (hA.mono hB.size)
  exact ⟨⟨kept B2 hr h0, kept B2 hr h1, kept B2 hr h2, (B2.frozen (p := ⟨rb, 0, none⟩) hr).trans (hf 0), (B2.frozen (p := ⟨rb, 1, none⟩) hr).trans (hf 1), (B2.frozen (p := ⟨rb, 2, none⟩) hr).trans (hf 2)⟩, ⟨by simp [go_sem], by simp [go_sem], by simp [go_sem]⟩, Nat.lt_of_lt_of_le hr B2.size, by simp⟩

/-- Nothing is asked. -/
theorem check0_any (w : World) :
    Calls Tryd.prog 25 #[.slice none 0 0] w fun e w' => e = .returned .nilIface ∧ Below w.heap.size w w' := by
  go_enter Tryd.func25, Tryd.ntmps25
  go_wp2
  go_rounds 1
  go_ret
  exact ⟨rfl, Below.refl _ _⟩

set_option maxRecDepth 100000 in
set_option maxHeartbeats 8000000 in
theorem piece_any (p : Nat → Addr) (c : Int) (v : Value) (L : List ByteArray) (asked : Value) (r : Bool) (w : World) (hs : Sent w p) (hc : -32768 ≤ c ∧ c ≤ 32767) (h : Strs w v L) (hn : L.length ≤ 1048576) (hsz : ∀ j, j < L.length → (rowAt L j).size ≤ 1048576)
    (hk : ∀ wx, Below w.heap.size w wx → Calls Tryd.prog 25 #[asked] wx fun e w' => e = .returned (errIn p r) ∧ Below wx.heap.size wx w') :
    Calls Tryd.prog 19 #[.agg #[.int .i16 c, v], asked] w fun e w' => Below w.heap.size w w' ∧ PieceR c L (if r = true then 0 else 2) w.heap.size e w' := by
  have HS := Lib.hid hs
  have B0 : Hid (Below w.heap.size w ((w.alloc (.cells #[.int .i16 c, v] 28)).alloc (.cells #[.int .i64 0, .slice none 0 0, .slice none 0 0] 46))) := ((Below.refl w.heap.size w).alloc (Nat.le_refl _) _).alloc (by simp) _
  have HK := Lib.hid (knit_any p c v L _ (hs.below B0.out) (h.below B0.out) hn hsz)
  have HZ : Hid (((w.alloc (.cells #[.int .i16 c, v] 28)).alloc (.cells #[.int .i64 0, .slice none 0 0, .slice none 0 0] 46)).heap.size = w.heap.size + 2) := Lib.hid (by simp)
  have r0 : Hid (((w.alloc (.cells #[.int .i16 c, v] 28)).alloc (.cells #[.int .i64 0, .slice none 0 0, .slice none 0 0] 46)).cell? ⟨w.heap.size + 1, 0, none⟩ = some (.int .i64 0)) := Lib.hid (by simp [go_sem])
  have r1 : Hid (((w.alloc (.cells #[.int .i16 c, v] 28)).alloc (.cells #[.int .i64 0, .slice none 0 0, .slice none 0 0] 46)).cell? ⟨w.heap.size + 1, 1, none⟩ = some (.slice none 0 0)) := Lib.hid (by simp [go_sem])
  have r2 : Hid (((w.alloc (.cells #[.int .i16 c, v] 28)).alloc (.cells #[.int .i64 0, .slice none 0 0, .slice none 0 0] 46)).cell? ⟨w.heap.size + 1, 2, none⟩ = some (.slice none 0 0)) := Lib.hid (by simp [go_sem])
  have rf : Hid (∀ o : Nat, ((w.alloc (.cells #[.int .i16 c, v] 28)).alloc (.cells #[.int .i64 0, .slice none 0 0, .slice none 0 0] 46)).frozen? ⟨w.heap.size + 1, o, none⟩ = false) := Lib.hid (fun o => by simp [go_sem])
  have q1 := neqNil_err
  have q2 := neqNil_nil
  have q3 := neqNil_row
  have HCK := Lib.hid hk
  have HCO := Lib.hid fun wx hx => codeIn_any (p := p) r wx hx
  generalize (if r = true then (0 : Int) else 2) = q at *
  obtain ⟨a1, cp, rfl⟩ := h.len
  obtain ⟨hc1, hc2⟩ := hc
  clear hs h hn hsz hk
  go_enter Tryd.func19, Tryd.ntmps19
  go_wp2_with fail
  refine HK.out.mono ?_
  rintro e w1 ⟨hB, hR⟩
  have HB := Lib.hid hB
  have B1 := Lib.hid (B0.out.trans (hB.mono (by rw [HZ.out]; omega)))
  rcases hR with ⟨hi, rfl⟩ | ⟨hi, k, hk, ha, hr, rfl⟩ | ⟨hok, rv, wv, rfl, ho1, ho2, hne⟩
  · have PP := Lib.hid (PB.made (t := 46) (.int .i64 0) (.slice none 0 0) (.slice none 0 0) HB.out (by rw [HZ.out]; omega) r0.out r1.out r2.out rf.out)
    have HR : Hid (okF c L = false) := okF_cast hi
    have B2 := Lib.hid (B1.out.alloc B1.out.size (.cells #[.int .i64 0, .slice none 0 0, .slice none 0 0] 46))
    obtain ⟨⟨s0, s1, s2, f0, f1, f2⟩, _⟩ := PP.out
    obtain ⟨e0, e1, e2⟩ := res3 (.int .i64 0) (.slice none 0 0) (.slice none 0 0) s0 s1 s2
    clear hB hi r0 r1 r2 rf HK HCK HCO
    unfold pz
    go_wp2
    refine bodyPost_ret (by simp [results, Tryd.results19, go_sem, e0, e1, e2]; try rfl) rfl ?_
    exact ⟨below_set (below_set (below_set B2.out (Nat.le_succ _) _) (Nat.le_succ _) _) (Nat.le_succ _) _, .inl ⟨HR.out, rfl⟩⟩
  · have PP := Lib.hid (PB.made (t := 46) (.int .i64 0) (.slice none 0 0) (.slice none 0 0) HB.out (by rw [HZ.out]; omega) r0.out r1.out r2.out rf.out)
    have HR : Hid (okF c L = false) := (okF_bad hk ha hr).1
    have B2 := Lib.hid (B1.out.alloc B1.out.size (.cells #[.int .i64 0, .slice none 0 0, .slice none 0 0] 46))
    obtain ⟨⟨s0, s1, s2, f0, f1, f2⟩, _⟩ := PP.out
    obtain ⟨e0, e1, e2⟩ := res3 (.int .i64 0) (.slice none 0 0) (.slice none 0 0) s0 s1 s2
    clear hB hi hk ha hr r0 r1 r2 rf HK HCK HCO
    unfold pz
    go_wp2
    refine bodyPost_ret (by simp [results, Tryd.results19, go_sem, e0, e1, e2]; try rfl) rfl ?_
    exact ⟨below_set (below_set (below_set B2.out (Nat.le_succ _) _) (Nat.le_succ _) _) (Nat.le_succ _) _, .inl ⟨HR.out, rfl⟩⟩
  · obtain ⟨ra, rc, rfl⟩ : ∃ ra rc, rv = .slice ra L.length rc := ho1.strs.len
    obtain ⟨wa, wc, rfl⟩ : ∃ wa wc, wv = .slice wa (wdsTo c L (L.length + 1)).length wc := ho2.ints.len
    have PP := Lib.hid (PB.made (t := 46) (.int .i64 c) (.slice ra L.length rc) (.slice wa (wdsTo c L (L.length + 1)).length wc) HB.out (by rw [HZ.out]; omega) r0.out r1.out r2.out rf.out)
    have HR := Lib.hid hok
    have B2 := Lib.hid (B1.out.alloc B1.out.size (.cells #[.int .i64 c, .slice ra L.length rc, .slice wa (wdsTo c L (L.length + 1)).length wc] 46))
    have O1 := Lib.hid (ho1.below ((Below.refl w1.heap.size w1).alloc (Nat.le_refl _) (.cells #[.int .i64 c, .slice ra L.length rc, .slice wa (wdsTo c L (L.length + 1)).length wc] 46)))
    have O2 := Lib.hid (ho2.below ((Below.refl w1.heap.size w1).alloc (Nat.le_refl _) (.cells #[.int .i64 c, .slice ra L.length rc, .slice wa (wdsTo c L (L.length + 1)).length wc] 46)))
    have NE := Lib.hid hne
    rw [HZ.out] at O1 O2
    clear hB hok ho1 ho2 hne r0 r1 r2 rf HK
    generalize (wdsTo c L (L.length + 1)).length = m at *
    go_wp2_with fail
    generalize w1.alloc (.cells #[.int .i64 c, .slice ra L.length rc, .slice wa m wc] 46) = w2 at *
    generalize w1.heap.size = pb at *
    have PD := Lib.hid (PP.out.below (Below.refl w2.heap.size w2).drew)
    have BD := Lib.hid (B2.out.drew)
    obtain ⟨⟨s0, s1, s2, f0, f1, f2⟩, ⟨t0, t1, t2⟩, _, _⟩ := PP.out
    first
      | (go_region_with (first | (go_at_call 25; refine (HCK.out _ BD.out).mono ?_; rintro e w3 ⟨rfl, hB3⟩; have P3 := Lib.hid (PD.out.below hB3); obtain ⟨⟨e0, e1, e2, g0, g1, g2⟩, ⟨d0, d1, d2⟩, _, _⟩ := P3.out) | (go_at_call 24; refine (HCO.out _ (HS.out.below (BD.out.trans (hB3.mono BD.out.size)))).mono ?_; rintro e w4 ⟨rfl, rfl⟩) | fail))
      | fail
    all_goals
      have O3 := Lib.hid (O1.out.below ((Below.refl w2.heap.size w2).drew.trans hB3))
      have O4 := Lib.hid (O2.out.below ((Below.refl w2.heap.size w2).drew.trans hB3))
      have B4 := Lib.hid (BD.out.trans (hB3.mono BD.out.size))
      obtain ⟨r0, r1, r2⟩ := res3 (.int .i64 c) (.slice ra L.length rc) (.slice wa m wc) e0 e1 e2
      clear hB3
      go_wp2
      refine bodyPost_ret (by simp [results, Tryd.results19, go_sem, r0, r1, r2]; try rfl) rfl ?_
      refine ⟨below_set (below_set (below_set B4.out (Nat.le_succ _) _) (Nat.le_succ _) _) (Nat.le_succ _) _, .inr ⟨HR.out, _, _, rfl, ?_, ?_, NE.out⟩⟩
      · exact OwnT.mono (base := w.heap.size + 2) (ownsRow_setCell_below (ownsRow_setCell_below (ownsRow_setCell_below O3.out (by simp) _) (by simp) _) (by simp) _) (by omega)
      · exact Own.mono (base := w.heap.size + 2) (ownsRow_setCell_below (ownsRow_setCell_below (ownsRow_setCell_below O4.out (by simp) _) (by simp) _) (by simp) _) (by omega)
end Go.Proofs.YtcgcaghmpegehaaDoor
