/-
  No statement is proved here: what CardAll answers in the document's own text; condition: at most 1048576 stripes and letters.
-/
import Derived.Test.YtpnfombolnaldaaGreatDoorTable
import Derived.Test.YtpnfombolnaldaaGreatDoorOwn
namespace Go.Proofs.YtpnfombolnaldaaGreatDoor
open Go.ChangeShapes Go.WideShapes Go.ChangeAt Go.RowKit

/-- The letters of a text. -/
def codes (s : ByteArray) : List Int := s.data.toList.map fun b => (b.toNat : Int)
theorem codes_length (s : ByteArray) : (codes s).length = s.size := by simp [codes]
theorem codes_get (s : ByteArray) (k : Nat) (hk : k < s.size) : (codes s).getD k 0 = ((s[k]'hk).toNat : Int) := by
  have h : k < s.data.toList.length := by simpa using hk
  rw [codes, List.getD, List.getElem?_map, List.getElem?_eq_getElem h]
  rfl
theorem idx_string (s : ByteArray) (k : Nat) (hk : k < s.size) (wx : World) : (Instr.index 9 (.string s) (.int .i64 (k : Int))).run Tryz.prog wx = .ok (.int .u8 ((codes s).getD k 0)) wx := by
  rw [run_index_string (P := Tryz.prog) wx _ s .i64 k Tryz.underlying9, dif_pos ⟨by omega, by omega⟩, codes_get s k hk]
  rfl

/-- What the passes that are left make of a web, and what falls out. -/
def goF (p : Int) : List Int → List Int → Int → List Int × Int × Int
  | [], zs, f => (zs, f, 0)
  | c :: cs, zs, f => if (passR p c zs).2.2 = true then goF p cs (passR p c zs).1 (f + (passR p c zs).2.1) else ([], 0, 5)
theorem goF_yes {p c : Int} {cs zs : List Int} {f : Int} (h : (passR p c zs).2.2 = true) : goF p (c :: cs) zs f = goF p cs (passR p c zs).1 (f + (passR p c zs).2.1) := if_pos h
theorem goF_no {p c : Int} {cs zs : List Int} {f : Int} (h : (passR p c zs).2.2 = false) : goF p (c :: cs) zs f = ([], 0, 5) := if_neg (by rw [h]; simp)
theorem passR_len (p c : Int) (zs : List Int) : (passR p c zs).1.length ≤ zs.length := by
  have hc : ∀ f, (cardW p f zs).length ≤ zs.length := fun f => by
    rw [cardW, shedTo_length, laid, outD_length, dblTo_length]
    omega
  unfold passR
  split
  · exact Nat.le_of_eq (rollL_length _ _)
  · split
    · exact hc true
    · split
      · exact hc false
      · simp
theorem goF_len (p : Int) : ∀ (cs zs : List Int) (f : Int), (goF p cs zs f).1.length ≤ zs.length
  | [], zs, f => Nat.le_refl _
  | c :: cs, zs, f => by
    rw [goF]
    split
    · exact Nat.le_trans (goF_len p cs _ _) (passR_len p c zs)
    · simp
/-- What CardAll answers. -/
def cardF (zs cs : List Int) (p : Int) : List Int × Int × Int :=
  if okW zs = true then (if inB p 0 100 = true then (if 20 < cs.length then ([], 0, 3) else goF p cs zs 0) else ([], 0, 2)) else ([], 0, 1)
theorem cardF_no {zs cs : List Int} {p : Int} (h : okW zs = false) : cardF zs cs p = ([], 0, 1) := if_neg (by rw [h]; simp)
theorem cardF_out {zs cs : List Int} {p : Int} (h : okW zs = true) (h2 : inB p 0 100 = false) : cardF zs cs p = ([], 0, 2) := by
  unfold cardF
  rw [if_pos h, if_neg (by rw [h2]; simp)]
theorem cardF_long {zs cs : List Int} {p : Int} (h : okW zs = true) (h2 : inB p 0 100 = true) (h3 : 20 < cs.length) : cardF zs cs p = ([], 0, 3) := by
  unfold cardF
  rw [if_pos h, if_pos h2, if_pos h3]
theorem cardF_go {zs cs : List Int} {p : Int} (h : okW zs = true) (h2 : inB p 0 100 = true) (h3 : ¬ 20 < cs.length) : cardF zs cs p = goF p cs zs 0 := by
  unfold cardF
  rw [if_pos h, if_pos h2, if_neg h3]
theorem cardF_len (zs cs : List Int) (p : Int) : (cardF zs cs p).1.length ≤ 2097152 := by
  unfold cardF
  split
  · rename_i h
    have hl := okW_len h
    split
    · split
      · simp
      · have := goF_len p cs zs 0
        omega
    · simp
  · simp
theorem drop_step {cs : List Int} {k : Nat} (hk : k < cs.length) : cs.drop k = cs.getD k 0 :: cs.drop (k + 1) := by
  rw [List.drop_eq_getElem_cons hk, List.getD, List.getElem?_eq_getElem hk]
  rfl

def percF (zs : List Int) (p : Int) : Int := if okW zs = true then (if inB p 0 100 = true then 0 else 2) else 1
set_option maxRecDepth 100000 in
set_option maxHeartbeats 1000000 in
theorem percent_any (v : Value) (zs : List Int) (p : Int) (w : World) (h : Ints w v zs) (hn : zs.length ≤ 1048576) :
    Calls Tryz.prog 40 #[v, .int .i64 p] w fun e w' => e = .returned (.int .i64 (percF zs p)) ∧ w = w' := by
  have hin := l02Ok_any v zs w h hn
  have hp := in_any p 0 100 w
  unfold percF
  cases h1 : okW zs with
  | false =>
    rw [h1] at hin
    have H1 := Lib.hid hin
    clear hin hp h h1
    go_enter Tryz.func40, Tryz.ntmps40
    go_wp2_with fail
    refine H1.out.mono ?_
    rintro e w' ⟨rfl, rfl⟩
    go_wp2_with fail
    go_ret
    exact ⟨rfl, rfl⟩
  | true =>
    rw [h1] at hin
    cases h2 : inB p 0 100 with
    | false =>
      rw [h2] at hp
      have H1 := Lib.hid hin
      have H2 := Lib.hid hp
      clear hin hp h h1 h2
      go_enter Tryz.func40, Tryz.ntmps40
      go_wp2_with fail
      refine H1.out.mono ?_
      rintro e w' ⟨rfl, rfl⟩
      go_wp2_with fail
      refine H2.out.mono ?_
      rintro e w' ⟨rfl, rfl⟩
      go_wp2_with fail
      go_ret
      exact ⟨rfl, rfl⟩
    | true =>
      rw [h2] at hp
      have H1 := Lib.hid hin
      have H2 := Lib.hid hp
      clear hin hp h h1 h2
      go_enter Tryz.func40, Tryz.ntmps40
      go_wp2_with fail
      refine H1.out.mono ?_
      rintro e w' ⟨rfl, rfl⟩
      go_wp2_with fail
      refine H2.out.mono ?_
      rintro e w' ⟨rfl, rfl⟩
      go_wp2_with fail
      go_ret
      exact ⟨rfl, rfl⟩

set_option maxRecDepth 100000 in
set_option maxHeartbeats 4000000 in
theorem specCard_any (v : Value) (zs : List Int) (s : ByteArray) (p : Int) (w : World) (h : Ints w v zs) (hn : zs.length ≤ 1048576) :
    Calls Tryz.prog 12 #[v, .string s, .int .i64 p] w fun e w' => ∃ r, e = .returned (.tuple #[r, .int .i64 (cardF zs (codes s) p).2.1, .int .i64 (cardF zs (codes s) p).2.2]) ∧ Own w' w.heap.size r (cardF zs (codes s) p).1 ∧ Below w.heap.size w w' := by
  have hp := percent_any v zs p w h hn
  have hcl := codes_length s
  cases h1 : okW zs with
  | false =>
    rw [percF, h1, if_neg (by simp)] at hp
    rw [cardF_no h1]
    have HP := Lib.hid hp
    clear hp h h1 hcl
    go_enter Tryz.func12, Tryz.ntmps12
    go_wp2_with fail
    refine HP.out.mono ?_
    rintro e w' ⟨rfl, rfl⟩
    go_wp2_with fail
    go_returns
    exact ⟨_, rfl, World.ownsRow_made w #[] 0 (Nat.le_refl _) (by decide) rfl, (Below.refl _ _).alloc (Nat.le_refl _) _⟩
  | true =>
    cases h2 : inB p 0 100 with
    | false =>
      rw [percF, h1, h2, if_pos rfl, if_neg (by simp)] at hp
      rw [cardF_out h1 h2]
      have HP := Lib.hid hp
      clear hp h h1 h2 hcl
      go_enter Tryz.func12, Tryz.ntmps12
      go_wp2_with fail
      refine HP.out.mono ?_
      rintro e w' ⟨rfl, rfl⟩
      go_wp2_with fail
      go_returns
      exact ⟨_, rfl, World.ownsRow_made w #[] 0 (Nat.le_refl _) (by decide) rfl, (Below.refl _ _).alloc (Nat.le_refl _) _⟩
    | true =>
      rw [percF, h1, h2, if_pos rfl, if_pos rfl] at hp
      have HP := Lib.hid hp
      by_cases h3 : 20 < s.size
      · rw [cardF_long h1 h2 (by omega)]
        have h3' : (20 : Int) < (s.size : Int) := by omega
        clear hp h h1 h2 hcl
        go_enter Tryz.func12, Tryz.ntmps12
        go_wp2_with fail
        refine HP.out.mono ?_
        rintro e w' ⟨rfl, rfl⟩
        go_wp2_with fail
        go_returns
        exact ⟨_, rfl, World.ownsRow_made w #[] 0 (Nat.le_refl _) (by decide) rfl, (Below.refl _ _).alloc (Nat.le_refl _) _⟩
      · rw [cardF_go h1 h2 (by omega)]
        have h3' : (s.size : Int) ≤ 20 := by omega
        have hl := okW_len h1
        obtain ⟨hp0, hp1⟩ := inB_of h2
        have HO := Lib.hid (own_any v zs w h hn (by omega))
        have HI := Lib.hid fun k hk wx => idx_string s k hk wx
        have OK := Lib.hid h1
        obtain ⟨cs, hcs⟩ : ∃ cs, cs = codes s := ⟨_, rfl⟩
        rw [← hcs] at hcl HI ⊢
        obtain ⟨m, hm⟩ : ∃ m, m = s.size := ⟨_, rfl⟩
        rw [← hm] at hcl HI h3'
        have HM := Lib.hid hm
        have CL := Lib.hid hcl
        obtain ⟨FIN, hF⟩ : ∃ FIN, FIN = goF p cs zs 0 := ⟨_, rfl⟩
        have HF := Lib.hid hF
        rw [← hF]
        have HP1 := Lib.hid (And.intro hp0 hp1)
        obtain ⟨B, hBe⟩ : ∃ B, B = w.heap.size := ⟨_, rfl⟩
        have HB := Lib.hid hBe
        rw [← hBe] at HO ⊢
        clear hp h h1 h2 hcl h3 hl hn hcs hm hF hBe hp0 hp1
        go_enter Tryz.func12, Tryz.ntmps12
        go_wp2_with fail
        refine HP.out.mono ?_
        rintro e w' ⟨rfl, rfl⟩
        have hlen : (Builtin.len_ #[9] 3 #[.string s]).run Tryz.prog = (Builtin.len_ #[9] 3 #[.string s]).run Tryz.prog := rfl
        clear hlen
        have hms : s.size = m := HM.out.symm
        go_wp2_with fail
        refine HO.out.mono ?_
        rintro e w1 ⟨r1, rfl, own, hB⟩
        have S0 := Lib.hid own
        have S1 := Lib.hid hB
        clear own hB HO
        go_wp2_with fail
        go_loopw [10, 11, 12] (fun r f i wr => ∃ (k : Nat) (cur : List Int) (F : Int), k ≤ m ∧ i = .int .i64 k ∧ f = .int .i64 F ∧ Hid (Own wr B r cur) ∧ Hid (okW cur = true) ∧ Hid (goF p (cs.drop k) cur F = FIN) ∧ Hid (-12000000 * (k : Int) ≤ F ∧ F ≤ 12000000 * (k : Int)) ∧ Hid (Below B w wr)) (fun _ _ i _ => m - (intOf i).toNat)
        case atStart => exact ⟨0, zs, 0, Nat.zero_le _, rfl, rfl, S0, OK, HF.out.symm, ⟨by simp, by simp⟩, S1⟩
        case round =>
          clear S0 S1
          obtain ⟨k, cur, F, hk, rfl, rfl, hO, hok, hG, hbd, hE⟩ := hrel
          by_cases hlt : k < m
          · have hki : (k : Int) < (m : Int) := by omega
            have hix := HI.out k hlt
            have hd := drop_step (cs := cs) (k := k) (by rw [CL.out]; exact hlt)
            have hg := hG.out
            rw [hd] at hg
            obtain ⟨c, hc⟩ : ∃ c, c = cs.getD k 0 := ⟨_, rfl⟩
            rw [← hc] at hix hg
            clear hc hd
            have HC := Lib.hid (l02Pass_any _ cur p c wr hO.out.ints hok.out HP1.out.1 HP1.out.2)
            cases hb : (passR p c cur).2.2 with
            | true =>
              obtain ⟨o1, o2, o3, o4⟩ := passR_ok hok.out HP1.out.1 HP1.out.2 hb
              rw [goF_yes hb] at hg
              rw [hb] at HC
              obtain ⟨ys, hys⟩ : ∃ ys, ys = (passR p c cur).1 := ⟨_, rfl⟩
              obtain ⟨g, hgg⟩ : ∃ g, g = (passR p c cur).2.1 := ⟨_, rfl⟩
              rw [← hys] at HC hg o1 o2
              rw [← hgg] at HC hg o3 o4
              have bd := hbd.out
              have hwr : IntKind.i64.wrap (F + g) = F + g := IntWalk.i64_in _ (by omega)
              have HG2 := Lib.hid hg
              have OK2 := Lib.hid o1
              have BD2 : Hid (-12000000 * ((k + 1 : Nat) : Int) ≤ F + g ∧ F + g ≤ 12000000 * ((k + 1 : Nat) : Int)) := ⟨by omega, by omega⟩
              clear hb o1 o2 o3 o4 hys hgg bd hg hG hok hbd
              go_wp2_with fail
              refine HC.out.mono ?_
              rintro e w2 ⟨r2, rfl, own, hB⟩
              have O2 : Hid (Own w2 B r2 ys) := own.mono (by rw [HB.out]; exact hE.out.size)
              have E2 := Lib.hid (hE.out.trans (hB.mono (by rw [HB.out]; exact hE.out.size)))
              clear own hB hO hE HC
              go_wp2_with fail
              go_roundw
              case rel => exact ⟨k + 1, ys, F + g, by omega, by go_num, rfl, O2, OK2, HG2, BD2, E2⟩
              case measure => simp [intOf]; omega
            | false =>
              rw [goF_no hb] at hg
              rw [hb] at HC
              have HG2 := Lib.hid hg
              clear hb hg hG hok hbd
              go_wp2_with fail
              refine HC.out.mono ?_
              rintro e w2 ⟨r2, rfl, own, hB⟩
              have E2 := Lib.hid (hE.out.trans (hB.mono (by rw [HB.out]; exact hE.out.size)))
              clear own hB hO hE HC
              go_wp2_with fail
              go_returns
              rw [← HG2.out]
              exact ⟨_, rfl, World.ownsRow_made w2 #[] 0 (by rw [HB.out]; exact E2.out.size) (by decide) rfl, E2.out.alloc (by rw [HB.out]; exact E2.out.size) _⟩
          · have hkn : k = m := by omega
            have hg := hG.out
            rw [hkn, List.drop_eq_nil_of_le (by rw [CL.out]; exact Nat.le_refl _)] at hg
            have HG2 := Lib.hid (show (cur, F, 0) = FIN from hg)
            have hki : (m : Int) ≤ (k : Int) := by omega
            clear hg hG hkn hlt hok hbd
            go_wp2_with fail
            go_returns
            rw [← HG2.out]
            exact ⟨_, rfl, hO.out, hE.out⟩
end Go.Proofs.YtpnfombolnaldaaGreatDoor
