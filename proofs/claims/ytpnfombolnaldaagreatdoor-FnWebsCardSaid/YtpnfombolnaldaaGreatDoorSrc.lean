/-
  No statement is proved here: slices of bytes that came in, and the source that reads choices from them; condition: at most 3000 bytes, at most 1000000 choices before.
-/
import Derived.Test.YtpnfombolnaldaaGreatDoorSum
import Derived.Deep.RegionHeld3
import Derived.Deep.QuietTactic
import Derived.Deep.AppendLies
import Derived.Deep.DrawnRows
import Derived.Laws.BitsAllLaws
namespace Go.Proofs.YtpnfombolnaldaaGreatDoor
open Go.ChangeShapes Go.WideShapes Go.ChangeAt Go.RowKit

/-- A slice of bytes: what its cells hold. -/
def Bytes (w : World) (v : Value) (bs : List Int) : Prop :=
  (∃ a cap, v = .slice a 0 cap ∧ bs = []) ∨
  ∃ b off cap, v = .slice (some ⟨b, off, none⟩) bs.length cap ∧ 0 < bs.length ∧ b < w.heap.size ∧ ∀ j, j < bs.length → w.cell? ⟨b, off + j, none⟩ = some (.int .u8 (bs.getD j 0)) ∧ 0 ≤ bs.getD j 0 ∧ bs.getD j 0 ≤ 255

theorem Bytes.below {w w' : World} {v : Value} {bs : List Int} (h : Bytes w v bs) (hB : Below w.heap.size w w') : Bytes w' v bs := by
  rcases h with h | ⟨b, off, cap, rfl, h0, hb, hc⟩
  · exact .inl h
  · exact .inr ⟨b, off, cap, rfl, h0, Nat.lt_of_lt_of_le hb hB.size, fun j hj => ⟨(hB.cell (p := ⟨b, off + j, none⟩) hb).trans (hc j hj).1, (hc j hj).2⟩⟩
theorem Bytes.len {w : World} {v : Value} {bs : List Int} (h : Bytes w v bs) : ∃ a cap, v = .slice a bs.length cap := by
  rcases h with ⟨a, cap, rfl, rfl⟩ | ⟨b, off, cap, rfl, h0, _⟩
  · exact ⟨_, _, rfl⟩
  · exact ⟨_, _, rfl⟩

set_option maxRecDepth 100000 in
theorem open_bytes {H : Type} {enc : TypeId × Value → H} {w : World} {v : Value} {d : DataW H} {p : List MemPlace} {base : Nat} (o : Value.okWide Tryz.prog w .any base 22 v) (k : DataW.Trod enc Tryz.prog w 0 (fun _ => true) true 22 v d p) : ∃ bs, Bytes w v bs := by
  obtain ⟨m, hf⟩ := k
  have hag : ∀ cs, v ≠ .agg cs := by
    rintro cs rfl
    unfold Value.okWide at o
    rw [Tryz.underlying22] at o
    unfold Cell.okWide at o
    rw [Tryz.underlying22] at o
    unfold Cell.ok at o
    rw [Tryz.underlying22] at o
    simp at o
  have hlt := DataW.trod_lt m _ _ _ hf
  rcases open_ints Tryz.underlying22 Tryz.underlying5 (by kernel_rfl) hf with ⟨hcs, hx⟩ | ⟨a, len, cap, zs, hcs, _, hl, hm, hz, hx, hcell, hwz⟩
  · simp [Value.cells] at hcs
    exact ⟨[], .inl (by cases v <;> simp_all)⟩
  · simp only [if_true] at hz
    by_cases hl0 : len = 0
    · subst hl0
      refine ⟨[], .inl ⟨some a, cap, ?_, rfl⟩⟩
      cases v <;> simp_all [Value.cells]
    · obtain ⟨b, off, spot⟩ := a
      have hspot : spot = none := by simpa [Addr.add] using World.cell?_spot (hcell 0 (by omega))
      subst hspot
      simp only [Prod.mk.injEq] at hx
      have hbW : b < w.heap.size := hlt (.cell b off) (by rw [hx.2]; exact MemPlace.mem_row.2 ⟨0, by omega, by simp⟩)
      have hlen : (zs.take len).length = len := by rw [List.length_take]; omega
      have hg : ∀ j, j < len → (zs.take len).getD j 0 = zs.getD j 0 := fun j hj => by simp [List.getD, hj]
      refine ⟨zs.take len, .inr ⟨b, off, cap, ?_, by omega, hbW, fun j hj => ?_⟩⟩
      · rw [hlen]
        cases v <;> simp_all [Value.cells]
      · rw [hlen] at hj
        rw [← add_plain, hcell j (by omega), hg j hj]
        have hmem : zs.getD j 0 ∈ zs := by
          rw [List.getD, List.getElem?_eq_getElem (by omega)]
          exact List.getElem_mem (by omega)
        have hw := hwz _ hmem
        refine ⟨rfl, ?_⟩
        have hk : IntKind.u8.min ≤ zs.getD j 0 ∧ zs.getD j 0 ≤ IntKind.u8.max := by simpa [Lit.wf] using hw
        exact hk

/-- The source in block S, which reads from v, after at most K choices. -/
def Src (w : World) (S : Nat) (v : Value) (K : Nat) : Prop :=
  ∃ (at_ : Nat) (seed : Int), at_ ≤ K ∧ w.cell? ⟨S, 0, none⟩ = some v ∧ w.cell? ⟨S, 1, none⟩ = some (.int .i64 at_) ∧ w.cell? ⟨S, 2, none⟩ = some (.int .u64 seed) ∧ ∀ o : Nat, w.frozen? ⟨S, o, none⟩ = false

theorem src_step {w : World} {S K : Nat} {v : Value} {seed : Int} {a : Nat} (ha : a ≤ K) (s0 : w.cell? ⟨S, 0, none⟩ = some v) (s1 : w.cell? ⟨S, 1, none⟩ = some (.int .i64 a)) (s2 : w.cell? ⟨S, 2, none⟩ = some (.int .u64 seed)) (sf : ∀ o : Nat, w.frozen? ⟨S, o, none⟩ = false) (n1 n2 : Nat) (X : Int) :
    Src ((((w.drewN n1).setCell ⟨S, 1, none⟩ (.int .i64 ((a : Int) + 1))).setCell ⟨S, 2, none⟩ (.int .u64 X)).drewN n2) S v (K + 1) ∧ w.grownBy ((((w.drewN n1).setCell ⟨S, 1, none⟩ (.int .i64 ((a : Int) + 1))).setCell ⟨S, 2, none⟩ (.int .u64 X)).drewN n2) (some S) := by
  have t0 : (w.drewN n1).cell? ⟨S, 0, none⟩ = some v := s0
  have t1 : (w.drewN n1).cell? ⟨S, 1, none⟩ = some (.int .i64 a) := s1
  have t2 : (w.drewN n1).cell? ⟨S, 2, none⟩ = some (.int .u64 seed) := s2
  have tf : ∀ o : Nat, (w.drewN n1).frozen? ⟨S, o, none⟩ = false := sf
  generalize hW : w.drewN n1 = W at t0 t1 t2 tf
  have hg : w.grownBy W none := by rw [← hW]; exact ⟨rfl, rfl, rfl, Nat.le_refl _, fun _ _ _ => rfl⟩
  refine ⟨⟨a + 1, X, by omega, ?_, ?_, ?_, ?_⟩, ?_⟩
  · show ((W.setCell ⟨S, 1, none⟩ (.int .i64 ((a : Int) + 1))).setCell ⟨S, 2, none⟩ (.int .u64 X)).cell? ⟨S, 0, none⟩ = some v
    simp [go_sem, t0]
  · show ((W.setCell ⟨S, 1, none⟩ (.int .i64 ((a : Int) + 1))).setCell ⟨S, 2, none⟩ (.int .u64 X)).cell? ⟨S, 1, none⟩ = some (.int .i64 ((a + 1 : Nat) : Int))
    simp [go_sem, t1]
  · show ((W.setCell ⟨S, 1, none⟩ (.int .i64 ((a : Int) + 1))).setCell ⟨S, 2, none⟩ (.int .u64 X)).cell? ⟨S, 2, none⟩ = some (.int .u64 X)
    simp [go_sem, t2]
  · intro o
    show ((W.setCell ⟨S, 1, none⟩ (.int .i64 ((a : Int) + 1))).setCell ⟨S, 2, none⟩ (.int .u64 X)).frozen? ⟨S, o, none⟩ = false
    simp [go_sem, tf o]
  · refine ⟨hg.os, hg.tape, hg.output, by simpa using hg.size, fun k hk hne => ?_⟩
    have hk2 : k ≠ S := fun e => hne (by rw [e])
    show ((W.setCell ⟨S, 1, none⟩ (.int .i64 ((a : Int) + 1))).setCell ⟨S, 2, none⟩ (.int .u64 X)).heap[k]? = _
    rw [Below.heap_setCell _ _ _ _ hk2, Below.heap_setCell _ _ _ _ hk2]
    exact hg.block k hk (by simp)

theorem mask255 (x : Int) : 0 ≤ wrap64 (bits BinOp.and IntKind.u64 (IntKind.u64.wrap x / 1099511627776) 255) ∧ wrap64 (bits BinOp.and IntKind.u64 (IntKind.u64.wrap x / 1099511627776) 255) ≤ 255 := by
  have h1 : 0 ≤ IntKind.u64.wrap x ∧ IntKind.u64.wrap x < 18446744073709551616 := by
    rw [IntKind.wrap_u64]
    omega
  rw [u64_and _ _ (by omega) (by omega) (by omega) (by omega)]
  have h2 : ((IntKind.u64.wrap x / 1099511627776).toNat &&& (255 : Int).toNat) ≤ (255 : Int).toNat := Nat.and_le_right
  have h3 : (255 : Int).toNat = 255 := rfl
  rw [h3] at h2 ⊢
  unfold wrap64
  omega

set_option linter.unusedVariables false in
set_option maxRecDepth 100000 in
set_option maxHeartbeats 2000000 in
theorem next_any (v : Value) (bs : List Int) (S K : Nat) (w : World) (hs : Src w S v K) (hb : Bytes w v bs) (hn : bs.length ≤ 3000) (hK : K ≤ 1000000) :
    Calls Tryz.prog 62 #[.pointer (some ⟨S, 0, none⟩)] w fun e w' => ∃ r : Int, e = .returned (.int .i64 r) ∧ 0 ≤ r ∧ r ≤ 255 ∧ Src w' S v (K + 1) ∧ w.grownBy w' (some S) := by
  obtain ⟨a, seed, ha, s0, s1, s2, sf⟩ := hs
  have f0 := sf 0
  have f1 := sf 1
  have f2 := sf 2
  obtain ⟨a1, c1, rfl⟩ := hb.len
  by_cases h : a < bs.length
  · rcases hb with ⟨_, _, _, hz⟩ | ⟨b, off, cap, he, hp, hbl, hc⟩
    · rw [hz] at h; simp at h
    · obtain ⟨hca, hr0, hr1⟩ := hc a h
      simp only [Value.slice.injEq] at he
      obtain ⟨rfl, _, rfl⟩ := he
      have ha0 : (0 : Int) ≤ (a : Int) := by omega
      have hab : (a : Int) < (bs.length : Int) := by omega
      obtain ⟨n, hln⟩ : ∃ n, n = bs.length := ⟨_, rfl⟩
      rw [← hln] at s0 hn h hab ⊢
      obtain ⟨z, hzz⟩ : ∃ z, z = bs.getD a 0 := ⟨_, rfl⟩
      rw [← hzz] at hca hr0 hr1
      have SF := Lib.hid sf
      clear hc hln hzz sf hp
      go_enter Tryz.func62, Tryz.ntmps62
      go_wp2_with fail
      go_quiet (fail)
      go_wp2_with fail
      go_quiet (fail)
      go_wp2_with fail
      go_quiet (fail)
      go_wp2_with fail
      go_ret
      refine ⟨z, rfl, hr0, hr1, ?_⟩
      exact src_step ha s0 s1 s2 SF.out _ _ _
  · have hge : ¬ ((a : Int) < (bs.length : Int)) := by omega
    obtain ⟨n, hln⟩ : ∃ n, n = bs.length := ⟨_, rfl⟩
    rw [← hln] at s0 hn h hge ⊢
    have SF := Lib.hid sf
    clear hln sf hb
    go_enter Tryz.func62, Tryz.ntmps62
    go_wp2_with fail
    go_quiet (fail)
    go_wp2_with fail
    go_quiet (fail)
    go_wp2_with fail
    have hm := mask255 (IntKind.u64.wrap (IntKind.u64.wrap (seed * 6364136223846793005)) + 1442695040888963407)
    go_ret
    refine ⟨_, rfl, hm.1, hm.2, ?_⟩
    exact src_step ha s0 s1 s2 SF.out _ _ _

theorem Src.mono {w : World} {S K K' : Nat} {v : Value} (h : Src w S v K) (hk : K ≤ K') : Src w S v K' := by
  obtain ⟨a, s, ha, r⟩ := h
  exact ⟨a, s, Nat.le_trans ha hk, r⟩
theorem Bytes.grown {w w' : World} {v : Value} {bs : List Int} {S : Nat} (h : Bytes w v bs) (hS : ∀ b o s c m, v = .slice (some ⟨b, o, s⟩) m c → 0 < m → b ≠ S) (hg : w.grownBy w' (some S)) : Bytes w' v bs := by
  rcases h with h | ⟨b, off, cap, rfl, h0, hb, hc⟩
  · exact .inl h
  · have hne := hS b off none cap bs.length rfl h0
    have hbk : w'.heap[b]? = w.heap[b]? := hg.block b hb fun e => hne (Option.some.inj e)
    exact .inr ⟨b, off, cap, rfl, h0, Nat.lt_of_lt_of_le hb hg.size, fun j hj => ⟨(World.cell?_of_block (w := w) (a := ⟨b, off + j, none⟩) hbk).trans (hc j hj).1, (hc j hj).2⟩⟩

set_option maxRecDepth 100000 in
set_option maxHeartbeats 2000000 in
theorem pick_any (v : Value) (bs : List Int) (S K : Nat) (n : Int) (w : World) (hs : Src w S v K) (hb : Bytes w v bs) (hbS : ∀ b o s c m, v = .slice (some ⟨b, o, s⟩) m c → 0 < m → b ≠ S) (hn : bs.length ≤ 3000) (hK : K + 2 ≤ 1000000) (h0 : 0 ≤ n) (h1 : n ≤ 1000000) :
    Calls Tryz.prog 31 #[.pointer (some ⟨S, 0, none⟩), .int .i64 n] w fun e w' => ∃ r : Int, e = .returned (.int .i64 r) ∧ 0 ≤ r ∧ (r < n ∨ r = 0) ∧ Src w' S v (K + 2) ∧ w.grownBy w' (some S) := by
  by_cases h2 : n ≤ 1
  · go_enter Tryz.func31, Tryz.ntmps31
    go_wp2_with fail
    go_ret
    exact ⟨0, rfl, by omega, .inr rfl, hs.mono (by omega), World.grownBy.refl _ _⟩
  · have HN := Lib.hid fun wx K hx hy hk => next_any v bs S K wx hx hy hn hk
    have HS := Lib.hid hs
    have HB := Lib.hid hb
    have HBS := Lib.hid hbS
    clear hs hb hbS
    by_cases h3 : n ≤ 200
    · go_enter Tryz.func31, Tryz.ntmps31
      go_wp2_with fail
      refine (HN.out w K HS.out HB.out (by omega)).mono ?_
      rintro e w1 ⟨r, rfl, hr0, hr1, s1, g1⟩
      have S1 := Lib.hid s1
      have G1 := Lib.hid g1
      have hm := Int.emod_lt_of_pos r (show 0 < n by omega)
      have hm0 := Int.emod_nonneg r (show n ≠ 0 by omega)
      have hmt : r.tmod n = r % n := Int.tmod_eq_emod_of_nonneg hr0
      clear s1 g1
      go_wp2_with fail
      go_ret
      exact ⟨_, rfl, by first | exact hm0 | (rw [hmt]; exact hm0), .inl (by first | exact hm | (rw [hmt]; exact hm)), S1.out.mono (by omega), G1.out⟩
    · go_enter Tryz.func31, Tryz.ntmps31
      go_wp2_with fail
      refine (HN.out w K HS.out HB.out (by omega)).mono ?_
      rintro e w1 ⟨r, rfl, hr0, hr1, s1, g1⟩
      have S1 := Lib.hid s1
      have G1 := Lib.hid g1
      have B1 := Lib.hid (HB.out.grown HBS.out g1)
      clear s1 g1
      go_wp2_with fail
      refine (HN.out w1 (K + 1) S1.out B1.out (by omega)).mono ?_
      rintro e w2 ⟨q, rfl, hq0, hq1, s2, g2⟩
      have S2 := Lib.hid s2
      have G2 := Lib.hid (grown_trans G1.out g2)
      have hx0 : 0 ≤ r * 256 + q := by omega
      have hm := Int.emod_lt_of_pos (r * 256 + q) (show 0 < n by omega)
      have hm0 := Int.emod_nonneg (r * 256 + q) (show n ≠ 0 by omega)
      have hmt : (r * 256 + q).tmod n = (r * 256 + q) % n := Int.tmod_eq_emod_of_nonneg hx0
      clear s2 g2
      go_wp2_with fail
      go_ret
      exact ⟨_, rfl, by first | exact hm0 | (rw [hmt]; exact hm0), .inl (by first | exact hm | (rw [hmt]; exact hm)), S2.out.mono (by omega), G2.out⟩
end Go.Proofs.YtpnfombolnaldaaGreatDoor
