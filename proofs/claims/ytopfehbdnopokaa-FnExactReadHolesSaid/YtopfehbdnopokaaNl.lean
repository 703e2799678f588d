/-
  No statement is proved here: how the document's own text splits a text at line ends; condition: at most 1048576 bytes.
-/
import Derived.Test.YtopfehbdnopokaaBase
import Derived.OwnWalk
import Derived.Laws.OwnMore
import Derived.Lib.Join
import Derived.Deep.AppendLies
import Derived.IntWalk
namespace Go.Proofs.Ytopfehbdnopokaa
open Go.ChangeShapes Go.WideShapes Go.ChangeAt Go.RowKit

theorem str_one (a : ByteArray) : ∀ u ∈ [Value.string a], u.oneCell' = true := by intro u hu; simp at hu; subst hu; rfl
theorem grown_alloc2 {w w' : World} {o : Obj} {row : Option Nat} (h : (w.alloc o).grownBy w' row) : w.grownBy w' row :=
  ⟨h.os, h.tape, h.output, Nat.le_trans (by simp) h.size, fun i hi hne => (h.block i (by simp; omega) hne).trans (Below.heap_alloc w o i hi)⟩

/-- Texts that lie in a block. -/
def Texts (w : World) (g : Nat) (ws : List (List UInt8)) : Prop := g < w.heap.size ∧ ∀ j, j < ws.length → w.cell? ⟨g, j, none⟩ = some (.string ⟨(ws.getD j []).toArray⟩)
/-- The pieces between line ends. -/
def nl : List UInt8 → List (List UInt8)
  | [] => [[]]
  | c :: cs => if c = 10 then [] :: nl cs else (c :: (nl cs).headD []) :: (nl cs).tail
theorem nl_ne : ∀ l, nl l ≠ []
  | [] => by simp [nl]
  | c :: cs => by
    rw [nl]
    split <;> simp
theorem nl_cons (l : List UInt8) : ∃ w ws, nl l = w :: ws := by
  cases h : nl l with
  | nil => exact absurd h (nl_ne l)
  | cons w ws => exact ⟨w, ws, rfl⟩
theorem nl_blank : ∀ (a b : List UInt8), (10 : UInt8) ∉ a → nl (a ++ 10 :: b) = a :: nl b
  | [], b, _ => by simp [nl]
  | c :: a, b, h => by
    have hc : c ≠ 10 := fun e => h (by simp [e])
    have ih := nl_blank a b (fun e => h (List.mem_cons_of_mem _ e))
    rw [List.cons_append, nl, if_neg hc, ih]
    rfl
theorem nl_one : ∀ (a : List UInt8), (10 : UInt8) ∉ a → nl a = [a]
  | [], _ => rfl
  | c :: a, h => by
    have hc : c ≠ 10 := fun e => h (by simp [e])
    have ih := nl_one a (fun e => h (List.mem_cons_of_mem _ e))
    rw [nl, if_neg hc, ih]
    rfl
def byteAt (s : ByteArray) (k : Nat) : Nat := (s.data.toList.getD k 0).toNat
theorem byteAt_le (s : ByteArray) (k : Nat) : byteAt s k ≤ 255 := by
  have := UInt8.toNat_lt (s.data.toList.getD k 0)
  unfold byteAt
  omega
theorem idx_str (s : ByteArray) (k : Nat) (hk : k < s.size) (wx : World) : (Instr.index 9 (.string s) (.int .i64 (k : Int))).run Try.prog wx = .ok (.int .u8 (byteAt s k : Nat)) wx := by
  rw [run_index_string (P := Try.prog) wx _ s .i64 k Try.underlying9, dif_pos ⟨by omega, by omega⟩]
  have h : k < s.data.toList.length := by simpa using hk
  rw [byteAt, List.getD, List.getElem?_eq_getElem h]
  rfl
set_option maxRecDepth 100000 in
theorem infoStr2 : (Try.prog.info? 9).map (fun i => (i.zero, i.size, i.bytes)) = some (some (.string ⟨#[]⟩), 1, 16) := by kernel_rfl
/-- What a list of texts owns. -/
def OwnS (w : World) (B : Nat) (v : Value) (ws : List (List UInt8)) : Prop := w.ownsRow B 9 1 v ws.length (ws.map fun x => Value.string ⟨x.toArray⟩)
theorem OwnS.row {w : World} {B : Nat} {v : Value} {ws : List (List UInt8)} (h : OwnS w B v ws) : w.ownsRow B 9 1 v ws.length (ws.map fun x => Value.string ⟨x.toArray⟩) := h
/-- The pieces before the one that begins at b. -/
def nlDone (l : List UInt8) (b k : Nat) (done : List (List UInt8)) : Prop := b ≤ k ∧ (10 : UInt8) ∉ (l.drop b).take (k - b) ∧ nl l = done ++ nl (l.drop b)
theorem nlDone_zero (l : List UInt8) : nlDone l 0 0 [] := ⟨Nat.le_refl _, by simp, by simp⟩
theorem nlDone_no {l : List UInt8} {b k : Nat} {done : List (List UInt8)} (h : nlDone l b k done) (hk : k < l.length) (hc : l.getD k 0 ≠ 10) : nlDone l b (k + 1) done := by
  obtain ⟨h1, h2, h3⟩ := h
  refine ⟨by omega, ?_, h3⟩
  have e : k + 1 - b = (k - b) + 1 := by omega
  have e2 : (l.drop b)[k - b]? = some (l.getD k 0) := by
    rw [List.getElem?_drop, show b + (k - b) = k by omega, List.getD, List.getElem?_eq_getElem hk]
    rfl
  rw [e, List.take_add_one, e2]
  simp only [Option.toList_some, List.mem_append, List.mem_singleton, not_or]
  exact ⟨h2, fun x => hc x.symm⟩
theorem nlDone_yes {l : List UInt8} {b k : Nat} {done : List (List UInt8)} (h : nlDone l b k done) (hk : k < l.length) (hc : l.getD k 0 = 10) : nlDone l (k + 1) (k + 1) (done ++ [(l.drop b).take (k - b)]) := by
  obtain ⟨h1, h2, h3⟩ := h
  refine ⟨Nat.le_refl _, by simp, ?_⟩
  have e : l.drop b = (l.drop b).take (k - b) ++ 10 :: l.drop (k + 1) := by
    have e1 := List.take_append_drop (k - b) (l.drop b)
    rw [List.drop_drop, show b + (k - b) = k by omega, List.drop_eq_getElem_cons hk] at e1
    have e2 : l[k] = 10 := by
      rw [List.getD, List.getElem?_eq_getElem hk] at hc
      exact hc
    rw [e2] at e1
    exact e1.symm
  rw [h3]
  conv => lhs; rw [e]
  rw [nl_blank _ _ h2]
  simp
theorem nlDone_end {l : List UInt8} {b k : Nat} {done : List (List UInt8)} (h : nlDone l b k done) (hk : l.length ≤ k) : nl l = done ++ [l.drop b] := by
  obtain ⟨h1, h2, h3⟩ := h
  rw [h3, nl_one]
  rw [List.take_of_length_le (by simp; omega)] at h2
  exact h2
theorem extract_list (s : ByteArray) (b k : Nat) : s.extract b k = ⟨((s.data.toList.drop b).take (k - b)).toArray⟩ := by
  apply ByteArray.ext
  apply Array.toList_inj.1
  simp
theorem byte_isN {s : ByteArray} {k : Nat} : (byteAt s k = 10 ↔ s.data.toList.getD k 0 = 10) := by
  unfold byteAt
  constructor
  · intro h
    apply UInt8.toNat_inj.1
    rw [h]
    rfl
  · intro h
    rw [h]
    rfl

set_option maxRecDepth 100000 in
set_option maxHeartbeats 4000000 in
theorem l01SplitN_any (s : ByteArray) (w : World) (hs : s.size ≤ 1048576) :
    Calls Try.prog 14 #[.string s, .int .u8 10] w fun e w' => ∃ r, e = .returned r ∧ OwnS w' w.heap.size r (nl s.data.toList) ∧ Below w.heap.size w w' := by
  obtain ⟨i0, hi, hz0, hz1, hz2⟩ := info_parts infoStr2
  have hsl : s.data.toList.length = s.size := by simp
  have HIX := Lib.hid fun k hk wx => idx_str s k hk wx
  have HBL := Lib.hid (byteAt_le s)
  have HEX := Lib.hid (extract_list s)
  have HYN := Lib.hid fun k => byte_isN (s := s) (k := k)
  obtain ⟨l, hl⟩ : ∃ l, l = s.data.toList := ⟨_, rfl⟩
  rw [← hl] at hsl HEX HYN ⊢
  clear hl
  obtain ⟨m, hm⟩ : ∃ m, m = s.size := ⟨_, rfl⟩
  have hms : s.size = m := hm.symm
  rw [hms] at hsl HIX hs
  have HSL := Lib.hid hsl
  obtain ⟨B, hBe⟩ : ∃ B, B = w.heap.size := ⟨_, rfl⟩
  have HB := Lib.hid hBe
  have hst0 : OwnS (w.alloc (.cells #[] 9)) B (.slice (some ⟨w.heap.size, 0, none⟩) 0 0) [] := World.ownsRow_made w #[] 0 (by omega) (by decide) rfl
  have hst1 : Below B w (w.alloc (.cells #[] 9)) := (Below.refl _ _).alloc (by omega) _
  have S0 := Lib.hid hst0
  have S1 := Lib.hid hst1
  rw [← hBe]
  clear hst0 hst1 hBe hsl hm
  go_enter Try.func14, Try.ntmps14
  go_wp2_with fail
  go_loopw [5, 6, 7] (fun v bg i wr => ∃ (b k : Nat) (done : List (List UInt8)) (u : Value), k ≤ m ∧ i = .int .i64 k ∧ bg = .int .i64 b ∧ u = v ∧ Hid (nlDone l b k done) ∧ Hid (done.length ≤ b) ∧ b ≤ k ∧ Hid (OwnS wr B v done) ∧ Hid (Below B w wr)) (fun _ _ i _ => m - (intOf i).toNat)
  case atStart => exact ⟨0, 0, [], _, Nat.zero_le _, rfl, rfl, rfl, nlDone_zero l, Lib.hid (Nat.le_refl _), Nat.le_refl _, S0, S1⟩
  case round =>
    clear S0 S1
    obtain ⟨b, k, done, v, hk, rfl, rfl, rfl, hP, hL, hbk, hO, hE⟩ := hrel
    by_cases hlt : k < m
    · have hki : (k : Int) < (m : Int) := by omega
      have hix := HIX.out k hlt
      have hyn := HYN.out k
      have hbl := HBL.out k
      obtain ⟨y, hy⟩ : ∃ y, y = byteAt s k := ⟨_, rfl⟩
      rw [← hy] at hix hyn hbl
      clear hy
      by_cases h32 : y = 10
      · have hP2 := Lib.hid (nlDone_yes hP.out (by rw [HSL.out]; exact hlt) (hyn.1 h32))
        have hx := HEX.out b k
        have hb1 : (b : Int) ≤ (k : Int) := by omega
        have hb2 : (k : Int) ≤ (m : Int) := by omega
        have hy2 : ((y : Int) == 10) = true := by rw [beq_iff_eq]; omega
        have hlen := hL.out
        have hszB : B ≤ wr.heap.size := by have := hE.out.size; rw [HB.out]; exact this
        obtain ⟨X, hX⟩ : ∃ X, X = (l.drop b).take (k - b) := ⟨_, rfl⟩
        rw [← hX] at hx hP2
        have HX := Lib.hid hx
        clear hX h32 hyn hP hL hx
        go_wp2_with (first
          | (at_builtin; refine wpList_append_lies _ rfl _ _ _ rfl B 9 i0 (.string ⟨#[]⟩) 1 16 Try.underlying35 hi hz0 hz1 hz2 rfl (by omega) v done.length _ rfl (hO.out.row.alloc _) ⟨wr.heap.size, 0, none⟩ 1 1 _ rfl rfl (World.news_of_block (heap_alloc_new wr _)) (str_one _) (by omega) (by unfold maxLen; omega) (by omega) (by simp; omega) (wr.heap.size + 1) (by simp) ?_; intro gg cap w1 hown1 hgrow hat hlt2)
          | fail)
        have hE2 := hE.out.grown (grown_alloc2 hgrow) hszB (fun j hj => (hO.out.row.lt j hj).1)
        have HO2 : Hid (OwnS w1 B (.slice (some ⟨gg, 0, none⟩) (done.length + 1) cap) (done ++ [X])) := by
          show World.ownsRow _ _ _ _ _ _ _
          rw [List.map_append, List.length_append, List.map_singleton, ← HX.out]
          exact hown1
        clear hgrow hown1 hat hlt2 hO hE
        go_wp2_with fail
        go_roundw
        case rel => exact ⟨k + 1, k + 1, done ++ [X], _, by omega, by go_num, by go_num, rfl, hP2, Lib.hid (by simp; omega), Nat.le_refl _, HO2, hE2⟩
        case measure => simp [intOf]; omega
      · have hP2 := Lib.hid (nlDone_no hP.out (by rw [HSL.out]; exact hlt) (fun e => h32 (hyn.2 e)))
        have hy2 : ((y : Int) == 10) = false := by rw [beq_eq_false_iff_ne]; omega
        clear h32 hyn hP
        go_wp2_with fail
        go_roundw
        case rel => exact ⟨b, k + 1, done, _, by omega, by go_num, rfl, rfl, hP2, hL, by omega, hO, hE⟩
        case measure => simp [intOf]; omega
    · have hkm : k = m := by omega
      have hP2 := Lib.hid (nlDone_end hP.out (by rw [HSL.out]; omega))
      have hx := HEX.out b m
      have hb1 : (b : Int) ≤ (m : Int) := by omega
      have hki : (m : Int) ≤ (k : Int) := by omega
      have hlen := hL.out
      have hszB : B ≤ wr.heap.size := by have := hE.out.size; rw [HB.out]; exact this
      rw [List.take_of_length_le (by rw [List.length_drop, HSL.out]; exact Nat.le_refl _)] at hx
      obtain ⟨X, hX⟩ : ∃ X, X = l.drop b := ⟨_, rfl⟩
      rw [← hX] at hx hP2
      have HX := Lib.hid hx
      clear hX hP hL hx hkm hlt
      go_wp2_with (first
        | (at_builtin; refine wpList_append_lies _ rfl _ _ _ rfl B 9 i0 (.string ⟨#[]⟩) 1 16 Try.underlying35 hi hz0 hz1 hz2 rfl (by omega) v done.length _ rfl (hO.out.row.alloc _) ⟨wr.heap.size, 0, none⟩ 1 1 _ rfl rfl (World.news_of_block (heap_alloc_new wr _)) (str_one _) (by omega) (by unfold maxLen; omega) (by omega) (by simp; omega) (wr.heap.size + 1) (by simp) ?_; intro gg cap w1 hown1 hgrow hat hlt2)
        | fail)
      have hE2 := hE.out.grown (grown_alloc2 hgrow) hszB (fun j hj => (hO.out.row.lt j hj).1)
      have HO2 : Hid (OwnS w1 B (.slice (some ⟨gg, 0, none⟩) (done.length + 1) cap) (done ++ [X])) := by
        show World.ownsRow _ _ _ _ _ _ _
        rw [List.map_append, List.length_append, List.map_singleton, ← HX.out]
        exact hown1
      clear hgrow hown1 hat hlt2 hO hE
      go_wp2_with fail
      go_ret
      rw [hP2.out]
      exact ⟨_, rfl, HO2.out, hE2⟩
end Go.Proofs.Ytopfehbdnopokaa
