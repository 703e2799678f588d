/-
  No statement is proved here: what CardOnce answers, in the program and in the document's own text; condition: at most 1048576 stripes.
-/
import Derived.Test.YtpnfombolnaldaaGreatDoorCardImpl
import Derived.Laws.BytesString
namespace Go.Proofs.YtpnfombolnaldaaGreatDoor
open Go.ChangeShapes Go.WideShapes Go.ChangeAt Go.RowKit

/-- What CardAll answers. -/
def cardS (zs : List Int) (s : ByteArray) (p : Int) : List Int × Int × Int := cardF zs (codes s) p
theorem cardS_len (zs : List Int) (s : ByteArray) (p : Int) : (cardS zs s p).1.length ≤ 2097152 := cardF_len _ _ _
theorem specCardS_any (v : Value) (zs : List Int) (s : ByteArray) (p : Int) (w : World) (h : Ints w v zs) (hn : zs.length ≤ 1048576) :
    Calls Tryz.prog 12 #[v, .string s, .int .i64 p] w fun e w' => ∃ r, e = .returned (.tuple #[r, .int .i64 (cardS zs s p).2.1, .int .i64 (cardS zs s p).2.2]) ∧ Own w' w.heap.size r (cardS zs s p).1 ∧ Below w.heap.size w w' := specCard_any v zs s p w h hn
theorem implCardS_any (v : Value) (zs : List Int) (s : ByteArray) (p : Int) (w : World) (h : Ints w v zs) (hn : zs.length ≤ 1048576) :
    Calls Tryz.prog 11 #[v, .string s, .int .i64 p] w fun e w' => ∃ r, e = .returned (.tuple #[r, .int .i64 (cardS zs s p).2.1, .int .i64 (cardS zs s p).2.2]) ∧ Own w' w.heap.size r (cardS zs s p).1 ∧ Below w.heap.size w w' := implCard_any v zs s p w h hn

/-- What CardOnce answers. -/
def cardO (zs : List Int) (c p : Int) : List Int × Int × Int := cardF zs [c] p
theorem cardO_len (zs : List Int) (c p : Int) : (cardO zs c p).1.length ≤ 2097152 := cardF_len _ _ _
theorem cardO_no {zs : List Int} {c p : Int} (h : okW zs = false) : cardO zs c p = ([], 0, 1) := cardF_no h
theorem cardO_out {zs : List Int} {c p : Int} (h : okW zs = true) (h2 : inB p 0 100 = false) : cardO zs c p = ([], 0, 2) := cardF_out h h2
theorem cardO_yes {zs : List Int} {c p : Int} (h : okW zs = true) (h2 : inB p 0 100 = true) (h3 : (passR p c zs).2.2 = true) : cardO zs c p = ((passR p c zs).1, (passR p c zs).2.1, 0) := by
  rw [cardO, cardF_go h h2 (by simp), goF_yes h3, Int.zero_add]
  rfl
theorem cardO_bad {zs : List Int} {c p : Int} (h : okW zs = true) (h2 : inB p 0 100 = true) (h3 : (passR p c zs).2.2 = false) : cardO zs c p = ([], 0, 5) := by
  rw [cardO, cardF_go h h2 (by simp), goF_no h3]

set_option maxRecDepth 100000 in
set_option maxHeartbeats 2000000 in
theorem specOnce_any (v : Value) (zs : List Int) (c p : Int) (w : World) (h : Ints w v zs) (hn : zs.length ≤ 1048576) :
    Calls Tryz.prog 26 #[v, .int .u8 c, .int .i64 p] w fun e w' => ∃ r, e = .returned (.tuple #[r, .int .i64 (cardO zs c p).2.1, .int .i64 (cardO zs c p).2.2]) ∧ Own w' w.heap.size r (cardO zs c p).1 ∧ Below w.heap.size w w' := by
  have hp := percent_any v zs p w h hn
  cases h1 : okW zs with
  | false =>
    rw [percF, h1, if_neg (by simp)] at hp
    rw [cardO_no h1]
    have HP := Lib.hid hp
    clear hp h h1
    go_enter Tryz.func26, Tryz.ntmps26
    go_wp2_with fail
    refine HP.out.mono ?_
    rintro e w' ⟨rfl, rfl⟩
    go_wp2_with fail
    go_returns
    exact ⟨_, rfl, World.ownsRow_made w #[] 0 (Nat.le_refl _) (by decide) rfl, (Below.refl _ _).alloc (Nat.le_refl _) _⟩
  | true =>
    cases h2 : inB p 0 100 with
    | false =>
      rw [percF, h1, h2, if_pos rfl, if_neg (by simp)] at hp
      rw [cardO_out h1 h2]
      have HP := Lib.hid hp
      clear hp h h1 h2
      go_enter Tryz.func26, Tryz.ntmps26
      go_wp2_with fail
      refine HP.out.mono ?_
      rintro e w' ⟨rfl, rfl⟩
      go_wp2_with fail
      go_returns
      exact ⟨_, rfl, World.ownsRow_made w #[] 0 (Nat.le_refl _) (by decide) rfl, (Below.refl _ _).alloc (Nat.le_refl _) _⟩
    | true =>
      rw [percF, h1, h2, if_pos rfl, if_pos rfl] at hp
      have HP := Lib.hid hp
      obtain ⟨hp0, hp1⟩ := inB_of h2
      have HC := Lib.hid (l02Pass_any v zs p c w h h1 hp0 hp1)
      cases h3 : (passR p c zs).2.2 with
      | true =>
        rw [cardO_yes h1 h2 h3]
        rw [h3] at HC
        obtain ⟨ys, hys⟩ : ∃ ys, ys = (passR p c zs).1 := ⟨_, rfl⟩
        obtain ⟨q, hqq⟩ : ∃ q, q = (passR p c zs).2.1 := ⟨_, rfl⟩
        rw [← hys, ← hqq] at HC ⊢
        clear hp h h1 h2 h3 hys hqq
        go_enter Tryz.func26, Tryz.ntmps26
        go_wp2_with fail
        refine HP.out.mono ?_
        rintro e w' ⟨rfl, rfl⟩
        go_wp2_with fail
        refine HC.out.mono ?_
        rintro e w' ⟨r, rfl, own, hB⟩
        go_wp2_with fail
        go_returns
        exact ⟨_, rfl, own, hB⟩
      | false =>
        rw [cardO_bad h1 h2 h3]
        rw [h3] at HC
        clear hp h h1 h2 h3
        go_enter Tryz.func26, Tryz.ntmps26
        go_wp2_with fail
        refine HP.out.mono ?_
        rintro e w' ⟨rfl, rfl⟩
        go_wp2_with fail
        refine HC.out.mono ?_
        rintro e w2 ⟨r, rfl, own, hB⟩
        have E2 := Lib.hid hB
        clear own hB
        go_wp2_with fail
        go_returns
        exact ⟨_, rfl, World.ownsRow_made w2 #[] 0 E2.out.size (by decide) rfl, E2.out.alloc E2.out.size _⟩

theorem one_letter {c : Int} (hc : IntKind.u8.has c) : codes ⟨#[UInt8.ofNat c.toNat]⟩ = [c] := by
  have h : 0 ≤ c ∧ c ≤ 255 := hc
  simp only [codes, List.map_cons, List.map_nil]
  congr 1
  rw [UInt8.toNat_ofNat_of_lt' (by simp only [UInt8.size]; omega)]
  omega

set_option maxRecDepth 100000 in
set_option maxHeartbeats 2000000 in
theorem implOnce_any (v : Value) (zs : List Int) (c p : Int) (w : World) (h : Ints w v zs) (hn : zs.length ≤ 1048576) (hc : IntKind.u8.has c) :
    Calls Tryz.prog 25 #[v, .int .u8 c, .int .i64 p] w fun e w' => ∃ r, e = .returned (.tuple #[r, .int .i64 (cardO zs c p).2.1, .int .i64 (cardO zs c p).2.2]) ∧ Own w' w.heap.size r (cardO zs c p).1 ∧ Below w.heap.size w w' := by
  have HC := Lib.hid fun wx (hx : Ints wx v zs) => implCard_any v zs ⟨#[UInt8.ofNat c.toNat]⟩ p wx hx hn
  rw [one_letter hc] at HC
  unfold cardO
  have HV := Lib.hid h
  clear h hn
  go_enter Tryz.func25, Tryz.ntmps25
  go_wp2_with fail
  have hld : (loadCells ⟨w.heap.size, 0, none⟩ 1).run Tryz.prog (w.alloc (.cells #[.int .u8 c] 5)) = .ok ([c].map (Value.int .u8)).toArray (w.alloc (.cells #[.int .u8 c] 5)) := by
    simp [loadCells, go_sem]
  rw [run_convert_bytes_string _ _ _ _ _ _ _ Tryz.underlying22 Tryz.underlying5 Tryz.underlying9, run_bytesToString _ _ _ _ [c] hld]
  have hst : [c].foldl (fun r (n : Int) => r.push (UInt8.ofNat n.toNat)) ByteArray.empty = ⟨#[UInt8.ofNat c.toNat]⟩ := rfl
  rw [hst]
  have hB0 : Below w.heap.size w (w.alloc (.cells #[.int .u8 c] 5)) := (Below.refl _ _).alloc (Nat.le_refl _) _
  have T0 := Lib.hid hB0
  have H0 := Lib.hid (HV.out.below hB0)
  clear hld hst hB0
  generalize w.alloc (.cells #[.int .u8 c] 5) = w1 at T0 H0 ⊢
  go_wp2_with fail
  refine (HC.out w1 H0.out).mono ?_
  rintro e w2 ⟨r, rfl, own, hB⟩
  have T2 := Lib.hid (T0.out.trans (hB.mono T0.out.size))
  have O2 := Lib.hid (own.mono T0.out.size)
  clear own hB
  go_wp2_with fail
  go_returns
  exact ⟨_, rfl, O2.out, T2.out⟩
theorem specOnceR_any (v : Value) (zs : List Int) (c p : Int) (w : World) (h : Ints w v zs) (hn : zs.length ≤ 1048576) (_ : IntKind.u8.has c) (_ : IntKind.i64.has p) :
    Calls Tryz.prog 26 #[v, .int .u8 c, .int .i64 p] w fun e w' => ∃ r, e = .returned (.tuple #[r, .int .i64 (cardO zs c p).2.1, .int .i64 (cardO zs c p).2.2]) ∧ Own w' w.heap.size r (cardO zs c p).1 ∧ Below w.heap.size w w' := specOnce_any v zs c p w h hn
theorem implOnceR_any (v : Value) (zs : List Int) (c p : Int) (w : World) (h : Ints w v zs) (hn : zs.length ≤ 1048576) (hc : IntKind.u8.has c) (_ : IntKind.i64.has p) :
    Calls Tryz.prog 25 #[v, .int .u8 c, .int .i64 p] w fun e w' => ∃ r, e = .returned (.tuple #[r, .int .i64 (cardO zs c p).2.1, .int .i64 (cardO zs c p).2.2]) ∧ Own w' w.heap.size r (cardO zs c p).1 ∧ Below w.heap.size w w' := implOnce_any v zs c p w h hn hc
end Go.Proofs.YtpnfombolnaldaaGreatDoor
