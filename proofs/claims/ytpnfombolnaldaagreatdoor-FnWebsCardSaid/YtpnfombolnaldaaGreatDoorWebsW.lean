/-
  No statement is proved here: what the law on webs calls, for valid webs; condition: a valid web.
-/
import Derived.Test.YtpnfombolnaldaaGreatDoorDrawWeb
import Derived.Test.YtpnfombolnaldaaGreatDoorCardSpec
import Derived.Test.YtpnfombolnaldaaGreatDoorWebsFacts2
import Derived.Test.YtpnfombolnaldaaGreatDoorAll
import Derived.Test.YtpnfombolnaldaaGreatDoorA2
import Derived.Test.YtpnfombolnaldaaGreatDoorTextImpl
import Derived.Test.YtpnfombolnaldaaGreatDoorReadImpl
import Derived.Test.YtpnfombolnaldaaGreatDoorCardImpl
import Derived.Test.YtpnfombolnaldaaGreatDoorMirrorW
import Derived.Test.YtpnfombolnaldaaGreatDoorFoldCross
import Derived.Test.YtpnfombolnaldaaGreatDoorUnevenI
namespace Go.Proofs.YtpnfombolnaldaaGreatDoor
open Go.ChangeShapes Go.WideShapes Go.ChangeAt Go.RowKit

set_option linter.unusedVariables false in
set_option maxRecDepth 100000 in
set_option maxHeartbeats 2000000 in
theorem text_any (v : Value) (bs : List Int) (S K : Nat) (lb m : Nat) (ls : List ByteArray) (w : World) (hs : Src w S v K) (hb : Bytes w v bs) (hbS : Apart v S) (hn : bs.length ≤ 3000) (hK : K + 2 ≤ 1000000)
    (hm : ls.length = m) (hm0 : 0 < m) (hm1 : m ≤ 1000) (hl : ∀ j, j < m → w.cell? ⟨lb, j, none⟩ = some (.string (ls.getD j ByteArray.empty))) (hlb : lb < w.heap.size) (hlS : lb ≠ S) :
    Calls Tryz.prog 32 #[.pointer (some ⟨S, 0, none⟩), .slice (some ⟨lb, 0, none⟩) m m] w fun e w' => ∃ j, j < m ∧ e = .returned (.string (ls.getD j ByteArray.empty)) ∧ Src w' S v (K + 2) ∧ w.grownBy w' (some S) := by
  have H := Lib.hid (pick_any v bs S K (m : Int) w hs hb hbS hn hK (by omega) (by omega))
  have HL := Lib.hid hl
  clear hs hb hbS hl hm
  go_enter Tryz.func32, Tryz.ntmps32
  go_wp2_with fail
  refine H.out.mono ?_
  rintro e w1 ⟨r, rfl, hr0, hr1, s1, g1⟩
  obtain ⟨j, rfl⟩ := Int.eq_ofNat_of_zero_le hr0
  have hjm : j < m := by omega
  have hji : (j : Int) < (m : Int) := by omega
  have c1 : w1.cell? ⟨lb, j, none⟩ = some (.string (ls.getD j ByteArray.empty)) := g1.cell (HL.out j hjm) (fun e => hlS (Option.some.inj e))
  have S1 := Lib.hid s1
  have G1 := Lib.hid g1
  obtain ⟨z, hz⟩ : ∃ z, z = ls.getD j ByteArray.empty := ⟨_, rfl⟩
  have HZ := Lib.hid hz
  rw [← hz] at c1
  clear s1 g1 hr1 hz
  go_wp2_with fail
  go_ret
  exact ⟨j, hjm, by rw [← HZ.out]; rfl, S1.out, G1.out⟩

theorem codes_app (a b : ByteArray) : codes (a ++ b) = codes a ++ codes b := by
  simp [codes]

/-- Passes as bytes. -/
def okPs (s : ByteArray) : Prop := s.size ≤ 5 ∧ ∀ c ∈ codes s, c = 114 ∨ c = 102 ∨ c = 99

set_option maxRecDepth 100000 in
set_option maxHeartbeats 2000000 in
theorem a2Passes_any (v : Value) (bs : List Int) (w : World) (hb : Bytes w v bs) (hn : bs.length ≤ 3000) :
    Calls Tryz.prog 6 #[v] w fun e w' => ∃ s : ByteArray, e = .returned (.string s) ∧ okPs s ∧ Below w.heap.size w w' := by
  obtain ⟨a1, c1, rfl⟩ := hb.len
  have HB := Lib.hid hb
  have hbl : ∀ b o s c m, Value.slice a1 bs.length c1 = .slice (some ⟨b, o, s⟩) m c → 0 < m → b < w.heap.size := by
    intro b o s c m e h0
    rcases hb with ⟨_, _, _, hz⟩ | ⟨b', off, cap, he, _, hlt, _⟩
    · simp only [Value.slice.injEq] at e
      rw [hz] at e
      simp at e
      omega
    · simp only [Value.slice.injEq] at e he
      have h1 := he.1.symm.trans e.1
      simp only [Option.some.injEq, Addr.mk.injEq] at h1
      omega
  have HBL := Lib.hid hbl
  clear hb hbl
  go_enter Tryz.func6, Tryz.ntmps6
  go_wp2_with (first | (go_at_call 30; go_in) | fail)
  have hg : w.grownBy (w.alloc (.cells #[.slice a1 bs.length c1, .int .i64 0, .int .u64 0] 82)) (none : Option Nat) := World.grownBy_alloc w _ none
  have hsrc : Src (w.alloc (.cells #[.slice a1 bs.length c1, .int .i64 0, .int .u64 0] 82)) w.heap.size (.slice a1 bs.length c1) 0 :=
    ⟨0, 0, Nat.le_refl _, by simp [go_sem], by simp [go_sem], by simp [go_sem], fun o => by simp [go_sem]⟩
  have HP : Hid (Apart (.slice a1 bs.length c1) w.heap.size) := fun b o s c m e h0 => by have := HBL.out b o s c m e h0; omega
  have B0 : Hid (Bytes (w.alloc (.cells #[.slice a1 bs.length c1, .int .i64 0, .int .u64 0] 82)) (.slice a1 bs.length c1) bs) := HB.out.far (B := w.heap.size) HBL.out hg (fun k hk => by cases hk)
  refine (pick_any _ bs w.heap.size 0 6 _ hsrc B0.out HP.out hn (by omega) (by omega) (by omega)).mono ?_
  rintro e w1 ⟨p, rfl, hp0, hp1, s1, g1⟩
  have S1 := Lib.hid s1
  have hz1 : w.heap.size < w1.heap.size := by have := g1.size; simp at this; omega
  have B1 := Lib.hid (B0.out.grown HP.out g1)
  have T1 : Hid (Below w.heap.size w w1) := ((Below.refl _ _).grown hg (Nat.le_refl _) (fun k hk => by cases hk)).grown g1 (by simp) (fun k hk => Nat.le_of_eq (Option.some.inj hk))
  clear s1 g1 hsrc hg B0
  obtain ⟨p, rfl⟩ := Int.eq_ofNat_of_zero_le hp0
  have hp5 : p ≤ 5 := by omega
  go_wp2_with fail
  go_loopw [4, 5] (fun o kk wr => ∃ (q : Nat) (s : ByteArray), s.size + q ≤ 5 ∧ kk = .int .i64 q ∧ o = .string s ∧ Hid (okPs s) ∧ w.heap.size < wr.heap.size ∧ Hid (Below w.heap.size w wr) ∧ Hid (Src wr w.heap.size (.slice a1 bs.length c1) (2 + 2 * s.size)) ∧ Hid (Bytes wr (.slice a1 bs.length c1) bs)) (fun _ kk _ => (intOf kk).toNat)
  case atStart => exact ⟨p, ByteArray.empty, by simpa using hp5, rfl, rfl, ⟨by simp, by simp [codes]⟩, hz1, T1, S1, B1⟩
  case round =>
    clear S1 B1 T1
    obtain ⟨q, s, hzq, rfl, rfl, hP, hz, hT, hSr, hBr⟩ := hrel
    by_cases hq : 0 < q
    · have hq1 : (0 : Int) < (q : Int) := by omega
      go_wp2_with fail
      have gl := World.grownBy_alloc wr (.cells #[.string ⟨#[99]⟩, .string ⟨#[102]⟩, .string ⟨#[114]⟩] 9) none
      have hcl : ∀ j, j < 3 → (wr.alloc (.cells #[.string ⟨#[99]⟩, .string ⟨#[102]⟩, .string ⟨#[114]⟩] 9)).cell? ⟨wr.heap.size, j, none⟩ = some (.string (([⟨#[99]⟩, ⟨#[102]⟩, ⟨#[114]⟩] : List ByteArray).getD j ByteArray.empty)) := by
        intro j hj
        match j, hj with
        | 0, _ => simp [go_sem]
        | 1, _ => simp [go_sem]
        | 2, _ => simp [go_sem]
        | j + 3, hj => omega
      refine (text_any _ bs w.heap.size (2 + 2 * s.size) wr.heap.size 3 [⟨#[99]⟩, ⟨#[102]⟩, ⟨#[114]⟩] _ (hSr.out.far gl (by simp)) (hBr.out.far (B := w.heap.size) HBL.out gl (fun k hk => by cases hk)) HP.out hn (by omega) rfl (by omega) (by omega) hcl (by simp) (by omega)).mono ?_
      rintro e w3 ⟨j, hj, rfl, s3, g3⟩
      have hx : ∃ b : UInt8, ([⟨#[99]⟩, ⟨#[102]⟩, ⟨#[114]⟩] : List ByteArray).getD j ByteArray.empty = ⟨#[b]⟩ ∧ ((b.toNat : Int) = 114 ∨ (b.toNat : Int) = 102 ∨ (b.toNat : Int) = 99) := by
        match j, hj with
        | 0, _ => exact ⟨99, rfl, .inr (.inr rfl)⟩
        | 1, _ => exact ⟨102, rfl, .inr (.inl rfl)⟩
        | 2, _ => exact ⟨114, rfl, .inl rfl⟩
        | j + 3, hj => omega
      obtain ⟨x, hx1, hx2⟩ := hx
      rw [hx1]
      have hsz : (s ++ ⟨#[x]⟩).size = s.size + 1 := by rw [ByteArray.size_append]; rfl
      have hadd : ∀ wx : World, (Op.stringOp .add s ⟨#[x]⟩).run Tryz.prog wx = .ok (.string (s ++ ⟨#[x]⟩)) wx := fun wx => run_string_add_sum (P := Tryz.prog) wx _ _ (by show s.size + 1 ≤ _; omega)
      have P3 : Hid (okPs (s ++ ⟨#[x]⟩)) := ⟨by omega, fun c hc => by
        rw [codes_app] at hc
        rcases List.mem_append.1 hc with h | h
        · exact hP.out.2 c h
        · have : c = (x.toNat : Int) := by simpa [codes] using h
          rw [this]
          exact hx2⟩
      have S3 : Hid (Src w3 w.heap.size (.slice a1 bs.length c1) (2 + 2 * (s ++ ⟨#[x]⟩).size)) := s3.mono (by omega)
      have B3 := Lib.hid ((hBr.out.far (B := w.heap.size) HBL.out gl (fun k hk => by cases hk)).grown HP.out g3)
      have T3 : Hid (Below w.heap.size w w3) := (hT.out.grown gl (Nat.le_of_lt hz) (fun k hk => by cases hk)).grown g3 (by simp; omega) (fun k hk => Nat.le_of_eq (Option.some.inj hk))
      have z3 : w.heap.size < w3.heap.size := by have := g3.size; simp at this; omega
      obtain ⟨y, hy⟩ : ∃ y, y = s ++ ⟨#[x]⟩ := ⟨_, rfl⟩
      rw [← hy] at hsz hadd P3 S3
      clear s3 g3 gl hcl hx1 hx2 hj hy
      go_wp2_with fail
      go_roundw
      case rel => exact ⟨q - 1, _, by omega, by go_num, rfl, P3, z3, T3, S3, B3⟩
      case measure => simp [intOf]; omega
    · have hq0 : q = 0 := by omega
      subst hq0
      go_wp2_with fail
      go_ret
      exact ⟨s, rfl, hP.out, hT.out⟩
end Go.Proofs.YtpnfombolnaldaaGreatDoor

namespace Go.Proofs.YtpnfombolnaldaaGreatDoor
open Go.ChangeShapes Go.WideShapes Go.ChangeAt Go.RowKit

theorem ownN {w : World} {B n : Nat} {r : Value} {ys : List Int} (h : Own w B r ys) (hl : ys.length = n) : ∃ a c, r = .slice a n c ∧ Own w B (.slice a n c) ys := by
  obtain ⟨a, c, rfl⟩ := h.ints.len
  rw [hl] at h ⊢
  exact ⟨a, c, rfl, h⟩
theorem has_small {b : Int} (h : -1000 ≤ b ∧ b ≤ 1000) : IntKind.i64.has b := by
  unfold IntKind.has
  show _ ∧ _
  constructor
  · show (-9223372036854775808 : Int) ≤ b
    omega
  · show b ≤ (9223372036854775807 : Int)
    omega
theorem text_t (v : Value) (zs : List Int) (n : Nat) (w : World) (h : Ints w v zs) (hok : okW zs = true) (hn : zs.length = n) (htab : Lib.TabIs Tryz.prog w "internal/strconv.uint64pow10" .u64 Lib.pow10Tab) :
    Calls Tryz.prog 9 #[v] w fun e w' => e = .returned (.string ⟨(txtTo zs n).toArray⟩) ∧ Below w.heap.size w w' := by
  have hl := okW_len hok
  have H := implText_any v zs w h (by omega) htab
  rw [text_yes hok, hn] at H
  exact H
theorem read_t (zs : List Int) (n : Nat) (w : World) (hok : okW zs = true) (hn : zs.length = n) (henv : Env w) :
    Calls Tryz.prog 8 #[.string ⟨(txtTo zs n).toArray⟩] w fun e w' => ∃ a c, e = .returned (.tuple #[.slice a n c, .int .i64 0]) ∧ Own w' w.heap.size (.slice a n c) zs ∧ Below w.heap.size w w' := by
  have hl := okW_len hok
  have ht := txtTo_len hok n
  have H := implRead_any ⟨(txtTo zs n).toArray⟩ w (by show (txtTo zs n).toArray.size ≤ _; simp; omega) henv
  rw [show (⟨(txtTo zs n).toArray⟩ : ByteArray).data.toList = txtTo zs n from rfl, ← hn, read_text hok] at H
  rw [← hn]
  refine H.mono ?_
  rintro e w' ⟨r, rfl, own, hB⟩
  obtain ⟨a, c, rfl, own⟩ := ownN own rfl
  exact ⟨a, c, rfl, own, hB⟩
theorem implCard_t (v : Value) (zs : List Int) (s : ByteArray) (p g : Int) (ys : List Int) (n : Nat) (w : World) (h : Ints w v zs) (hF : cardF zs (codes s) p = (ys, g, 0)) (hy : ys.length = n) (hok : okW zs = true) :
    Calls Tryz.prog 11 #[v, .string s, .int .i64 p] w fun e w' => ∃ a c, e = .returned (.tuple #[.slice a n c, .int .i64 g, .int .i64 0]) ∧ Own w' w.heap.size (.slice a n c) ys ∧ Below w.heap.size w w' := by
  have hl := okW_len hok
  have H := implCard_any v zs s p w h (by omega)
  rw [hF] at H
  refine H.mono ?_
  rintro e w' ⟨r, rfl, own, hB⟩
  obtain ⟨a, c, rfl, own⟩ := ownN (n := n) own (by exact hy)
  exact ⟨a, c, rfl, own, hB⟩
theorem specCard_t (v : Value) (zs : List Int) (s : ByteArray) (p g : Int) (ys : List Int) (n : Nat) (w : World) (h : Ints w v zs) (hF : cardF zs (codes s) p = (ys, g, 0)) (hy : ys.length = n) (hok : okW zs = true) :
    Calls Tryz.prog 12 #[v, .string s, .int .i64 p] w fun e w' => ∃ a c, e = .returned (.tuple #[.slice a n c, .int .i64 g, .int .i64 0]) ∧ Own w' w.heap.size (.slice a n c) ys ∧ Below w.heap.size w w' := by
  have hl := okW_len hok
  have H := specCard_any v zs s p w h (by omega)
  rw [hF] at H
  refine H.mono ?_
  rintro e w' ⟨r, rfl, own, hB⟩
  obtain ⟨a, c, rfl, own⟩ := ownN (n := n) own (by exact hy)
  exact ⟨a, c, rfl, own, hB⟩
theorem specRoll_t (v : Value) (zs : List Int) (b : Int) (n : Nat) (w : World) (h : Ints w v zs) (hb : -1000 ≤ b ∧ b ≤ 1000) (hok : okW zs = true) (hn : zs.length = n) :
    Calls Tryz.prog 14 #[v, .int .i64 b] w fun e w' => ∃ a c, e = .returned (.tuple #[.slice a n c, .int .i64 0]) ∧ Own w' w.heap.size (.slice a n c) (rollL zs (rollP b n)) ∧ Below w.heap.size w w' := by
  have hl := okW_len hok
  have H := specRoll_any v zs b w h (by omega) (has_small hb)
  rw [rolF_yes hok, hn] at H
  refine H.mono ?_
  rintro e w' ⟨r, rfl, own, hB⟩
  obtain ⟨a, c, rfl, own⟩ := ownN (n := n) own (by rw [rollL_length]; exact hn)
  exact ⟨a, c, rfl, own, hB⟩
theorem implRoll_t (v : Value) (zs : List Int) (b : Int) (n : Nat) (w : World) {base : Nat} (h : Own w base v zs) (hb : -1000 ≤ b ∧ b ≤ 1000) (hok : okW zs = true) (hn : zs.length = n) :
    Calls Tryz.prog 13 #[v, .int .i64 b] w fun e w' => ∃ a c, e = .returned (.tuple #[.slice a n c, .int .i64 0]) ∧ Own w' w.heap.size (.slice a n c) (rollL zs (rollP b n)) ∧ Below w.heap.size w w' := by
  have hl := okW_len hok
  have H := implRoll_any v zs b base w h (by omega) (has_small hb)
  rw [rolF_yes hok, hn] at H
  refine H.mono ?_
  rintro e w' ⟨r, rfl, own, hB⟩
  obtain ⟨a, c, rfl, own⟩ := ownN (n := n) own (by rw [rollL_length]; exact hn)
  exact ⟨a, c, rfl, own, hB⟩
theorem implMirror_t (v : Value) (zs : List Int) (n : Nat) (w : World) (h : Ints w v zs) (hok : okW zs = true) (hn : zs.length = n) :
    Calls Tryz.prog 15 #[v] w fun e w' => ∃ a c, e = .returned (.tuple #[.slice a n c, .int .i64 0]) ∧ Own w' w.heap.size (.slice a n c) zs.reverse ∧ Below w.heap.size w w' := by
  have hl := okW_len hok
  have H := implMirror_any v zs w h (by omega)
  rw [mirF_yes hok] at H
  refine H.mono ?_
  rintro e w' ⟨r, rfl, own, hB⟩
  obtain ⟨a, c, rfl, own⟩ := ownN (n := n) own (by rw [List.length_reverse]; exact hn)
  exact ⟨a, c, rfl, own, hB⟩
theorem specMirror_t (v : Value) (zs : List Int) (n : Nat) (w : World) (h : Ints w v zs) (hok : okW zs = true) (hn : zs.length = n) :
    Calls Tryz.prog 16 #[v] w fun e w' => ∃ a c, e = .returned (.tuple #[.slice a n c, .int .i64 0]) ∧ Own w' w.heap.size (.slice a n c) zs.reverse ∧ Below w.heap.size w w' := by
  have hl := okW_len hok
  have H := specMirror_any v zs w h (by omega)
  rw [mirF_yes hok] at H
  refine H.mono ?_
  rintro e w' ⟨r, rfl, own, hB⟩
  obtain ⟨a, c, rfl, own⟩ := ownN (n := n) own (by rw [List.length_reverse]; exact hn)
  exact ⟨a, c, rfl, own, hB⟩
theorem specFold_t (v : Value) (zs : List Int) (h2 : Nat) (n : Nat) (w : World) (h : Ints w v zs) (hh : n / 2 = h2) (hok : okW zs = true) (hn : zs.length = n) :
    Calls Tryz.prog 21 #[v] w fun e w' => ∃ a c, e = .returned (.tuple #[.slice a h2 c, .int .i64 0]) ∧ Own w' w.heap.size (.slice a h2 c) (dblTo zs true h2) ∧ Below w.heap.size w w' := by
  have hl := okW_len hok
  have H := specFold_any v zs w h (by omega)
  rw [dblF_yes hok, hn, hh] at H
  refine H.mono ?_
  rintro e w' ⟨r, rfl, own, hB⟩
  obtain ⟨a, c, rfl, own⟩ := ownN (n := h2) own (by rw [dblTo_length])
  exact ⟨a, c, rfl, own, hB⟩
theorem implFold_t (v : Value) (zs : List Int) (h2 : Nat) (n : Nat) (w : World) {base : Nat} (h : Own w base v zs) (hh : n / 2 = h2) (hok : okW zs = true) (hn : zs.length = n) :
    Calls Tryz.prog 20 #[v] w fun e w' => ∃ a c, e = .returned (.tuple #[.slice a h2 c, .int .i64 0]) ∧ Own w' w.heap.size (.slice a h2 c) (dblTo zs true h2) ∧ Below w.heap.size w w' := by
  have hl := okW_len hok
  have H := implFold_any v zs base w h (by omega)
  rw [dblF_yes hok, hn, hh] at H
  refine H.mono ?_
  rintro e w' ⟨r, rfl, own, hB⟩
  obtain ⟨a, c, rfl, own⟩ := ownN (n := h2) own (by rw [dblTo_length])
  exact ⟨a, c, rfl, own, hB⟩
theorem specCross_t (v : Value) (zs : List Int) (h2 : Nat) (n : Nat) (w : World) (h : Ints w v zs) (hh : n / 2 = h2) (hok : okW zs = true) (hn : zs.length = n) :
    Calls Tryz.prog 23 #[v] w fun e w' => ∃ a c, e = .returned (.tuple #[.slice a h2 c, .int .i64 0]) ∧ Own w' w.heap.size (.slice a h2 c) (dblTo zs false h2) ∧ Below w.heap.size w w' := by
  have hl := okW_len hok
  have H := specCross_any v zs w h (by omega)
  rw [dblF_yes hok, hn, hh] at H
  refine H.mono ?_
  rintro e w' ⟨r, rfl, own, hB⟩
  obtain ⟨a, c, rfl, own⟩ := ownN (n := h2) own (by rw [dblTo_length])
  exact ⟨a, c, rfl, own, hB⟩
theorem implCross_t (v : Value) (zs : List Int) (h2 : Nat) (n : Nat) (w : World) {base : Nat} (h : Own w base v zs) (hh : n / 2 = h2) (hok : okW zs = true) (hn : zs.length = n) :
    Calls Tryz.prog 22 #[v] w fun e w' => ∃ a c, e = .returned (.tuple #[.slice a h2 c, .int .i64 0]) ∧ Own w' w.heap.size (.slice a h2 c) (dblTo zs false h2) ∧ Below w.heap.size w w' := by
  have hl := okW_len hok
  have H := implCross_any v zs base w h (by omega)
  rw [dblF_yes hok, hn, hh] at H
  refine H.mono ?_
  rintro e w' ⟨r, rfl, own, hB⟩
  obtain ⟨a, c, rfl, own⟩ := ownN (n := h2) own (by rw [dblTo_length])
  exact ⟨a, c, rfl, own, hB⟩
theorem implOnce_t (v : Value) (zs : List Int) (n : Nat) (w : World) (h : Ints w v zs) (hok : okW zs = true) (hn : zs.length = n) :
    Calls Tryz.prog 25 #[v, .int .u8 102, .int .i64 0] w fun e w' => ∃ a c, e = .returned (.tuple #[.slice a n c, .int .i64 0, .int .i64 0]) ∧ Own w' w.heap.size (.slice a n c) (laid true zs) ∧ Below w.heap.size w w' := by
  have hl := okW_len hok
  have H := implOnce_any v zs 102 0 w h (by omega) ⟨by show (0 : Int) ≤ 102; omega, by show (102 : Int) ≤ 255; omega⟩
  rw [once_fold hok] at H
  refine H.mono ?_
  rintro e w' ⟨r, rfl, own, hB⟩
  obtain ⟨a, c, rfl, own⟩ := ownN (n := n) own (by rw [laid_length hok]; exact hn)
  exact ⟨a, c, rfl, own, hB⟩
theorem specOnce_t (v : Value) (zs : List Int) (n : Nat) (w : World) (h : Ints w v zs) (hok : okW zs = true) (hn : zs.length = n) :
    Calls Tryz.prog 26 #[v, .int .u8 102, .int .i64 0] w fun e w' => ∃ a c, e = .returned (.tuple #[.slice a n c, .int .i64 0, .int .i64 0]) ∧ Own w' w.heap.size (.slice a n c) (laid true zs) ∧ Below w.heap.size w w' := by
  have hl := okW_len hok
  have H := specOnce_any v zs 102 0 w h (by omega)
  rw [once_fold hok] at H
  refine H.mono ?_
  rintro e w' ⟨r, rfl, own, hB⟩
  obtain ⟨a, c, rfl, own⟩ := ownN (n := n) own (by rw [laid_length hok]; exact hn)
  exact ⟨a, c, rfl, own, hB⟩
theorem implDraw_t (v : Value) (zs : List Int) (n h2 : Nat) (w : World) (h : Ints w v (dblTo zs true h2)) (hok : okW zs = true) (hn : zs.length = n) (hh : n / 2 = h2) :
    Calls Tryz.prog 24 #[v, .int .i64 n] w fun e w' => ∃ a c, e = .returned (.tuple #[.slice a n c, .int .i64 0]) ∧ Own w' w.heap.size (.slice a n c) (laid true zs) ∧ Below w.heap.size w w' := by
  have hl := okW_len hok
  subst hh
  subst hn
  have H := implDraw_any v _ (zs.length : Int) w h (by rw [dblTo_length]; omega)
  rw [draw_half hok] at H
  refine H.mono ?_
  rintro e w' ⟨r, rfl, own, hB⟩
  obtain ⟨a, c, rfl, own⟩ := ownN own (laid_length hok)
  exact ⟨a, c, rfl, own, hB⟩
theorem implSpread_t (v : Value) (zs : List Int) (w : World) (h : Ints w v zs) (hok : okW zs = true) :
    Calls Tryz.prog 17 #[v] w fun e w' => e = .returned (.tuple #[.int .i64 (mxTo zs zs.length - mnTo zs zs.length), .int .i64 0]) ∧ w = w' := by
  have hl := okW_len hok
  have H := implSpread_any v zs w h (by omega)
  rw [sprF_yes hok] at H
  exact H
theorem valid_t (v : Value) (zs : List Int) (w : World) (h : Ints w v zs) (hok : okW zs = true) :
    Calls Tryz.prog 19 #[v] w fun e w' => e = .returned (.bool true) ∧ w = w' := by
  have hl := okW_len hok
  have H := valid_any v zs w h (by omega)
  rw [hok] at H
  exact H
theorem implUn_t (v : Value) (zs : List Int) (a b c : Int) (w : World) (h : Ints w v zs) (hok : okW zs = true) (hF : unF zs = (a, b, c)) :
    Calls Tryz.prog 27 #[v] w fun e w' => e = .returned (.tuple #[.agg #[.int .i64 a, .int .i64 b], .int .i64 c]) ∧ Below w.heap.size w w' := by
  have hl := okW_len hok
  have H := implUn_any v zs w h (by omega)
  rw [hF] at H
  exact H
theorem specUn_t (v : Value) (zs : List Int) (a b c : Int) (w : World) (h : Ints w v zs) (hok : okW zs = true) (hF : unF zs = (a, b, c)) :
    Calls Tryz.prog 28 #[v] w fun e w' => e = .returned (.tuple #[.agg #[.int .i64 a, .int .i64 b], .int .i64 c]) ∧ Below w.heap.size w w' := by
  have hl := okW_len hok
  have H := specUn_any v zs w h (by omega)
  rw [hF] at H
  exact H
end Go.Proofs.YtpnfombolnaldaaGreatDoor
