/-
  No statement is proved here: the strands with a number, as the document's own text collects them; condition: at most as many numbers as strands, at most 1048576.
-/
import Derived.Test.YtaanjjmochfhgaaDoorWindN
import Derived.Test.YtaanjjmochfhgaaDoorSnS
import Derived.Test.YtaanjjmochfhgaaDoorInts
import Derived.Test.YtaanjjmochfhgaaDoorIn
import Derived.Deep.AppendLies
namespace Go.Proofs.YtaanjjmochfhgaaDoor
open Go.ChangeShapes Go.WideShapes Go.ChangeAt Go.RowKit

theorem subS_nil_left (r : Int) (ns : List Int) : subS [] ns r = [] := by cases ns <;> rfl
theorem subS_nil_right (r : Int) (ss : List Sn) : subS ss [] r = [] := by cases ss <;> rfl
theorem subS_step (r : Int) : ∀ (ss : List Sn) (ns : List Int) (k : Nat), k < ns.length → k < ss.length → subS (ss.take (k + 1)) (ns.take (k + 1)) r = subS (ss.take k) (ns.take k) r ++ if ns.getD k 0 = r then [sat ss k] else []
  | [], _, k, _, h => by simp at h
  | s :: ss, [], k, h, _ => by simp at h
  | s :: ss, n :: ns, 0, _, _ => by
    have e1 : subS ((s :: ss).take 0) ((n :: ns).take 0) r = [] := rfl
    rw [e1, List.nil_append, List.take_succ_cons, List.take_succ_cons, List.take_zero, List.take_zero, subS, subS_nil_left]
    rfl
  | s :: ss, n :: ns, k + 1, h1, h2 => by
    have ih := subS_step r ss ns k (by simpa using h1) (by simpa using h2)
    rw [List.take_succ_cons, List.take_succ_cons, List.take_succ_cons, List.take_succ_cons, subS, subS, ih]
    have e1 : (n :: ns).getD (k + 1) 0 = ns.getD k 0 := rfl
    have e2 : sat (s :: ss) (k + 1) = sat ss k := rfl
    rw [e1, e2]
    by_cases hn : n = r
    · rw [if_pos hn, if_pos hn, List.cons_append]
    · rw [if_neg hn, if_neg hn]
theorem subS_full (r : Int) : ∀ (ss : List Sn) (ns : List Int), ns.length ≤ ss.length → subS (ss.take ns.length) (ns.take ns.length) r = subS ss ns r
  | [], _, h => by
    simp at h
    subst h
    rfl
  | s :: ss, [], _ => by rw [subS_nil_right]; exact subS_nil_right r _
  | s :: ss, n :: ns, h => by
    have ih := subS_full r ss ns (by simpa using h)
    rw [List.length_cons, List.take_succ_cons, List.take_succ_cons, subS, subS, ih]
theorem cellsSt_app (a b : List Sn) : cellsSt (a ++ b) = cellsSt a ++ cellsSt b := by unfold cellsSt; rw [List.flatMap_append]
theorem grown_allocS {w w' : World} {o : Obj} {row : Option Nat} (h : (w.alloc o).grownBy w' row) : w.grownBy w' row :=
  ⟨h.os, h.tape, h.output, Nat.le_trans (by simp) h.size, fun i hi hne => (h.block i (by simp; omega) hne).trans (Below.heap_alloc w o i hi)⟩
theorem two_val (a b : Int) (k l : IntKind) : ∀ x ∈ [Value.int k a, Value.int l b], x.oneCell' = true := by intro x hx; simp at hx; rcases hx with rfl | rfl <;> rfl
theorem sat_sub (r : Int) : ∀ (xs : List Sn) (ns : List Int), (∀ x ∈ xs, IsSt x) → ∀ j, IsSt (sat (subS xs ns r) j) := by
  intro xs ns h j
  have hm : ∀ (xs : List Sn) (ns : List Int), ∀ x ∈ subS xs ns r, x ∈ xs := by
    intro xs
    induction xs with
    | nil => intro ns x hx; rw [subS_nil_left] at hx; simp at hx
    | cons s xs ih =>
      intro ns x hx
      cases ns with
      | nil => rw [subS_nil_right] at hx; simp at hx
      | cons n ns =>
        rw [subS] at hx
        split at hx
        · rcases List.mem_cons.1 hx with rfl | hx
          · exact List.mem_cons_self
          · exact List.mem_cons_of_mem _ (ih ns x hx)
        · exact List.mem_cons_of_mem _ (ih ns x hx)
  by_cases hj : j < (subS xs ns r).length
  · refine h _ (hm xs ns _ ?_)
    unfold sat
    rw [List.getD, List.getElem?_eq_getElem hj]
    exact List.getElem_mem hj
  · unfold sat
    rw [List.getD, List.getElem?_eq_none (by omega)]
    simp [IsSt]
theorem isSt_mem {ss : List Sn} (hst : ∀ j, IsSt (sat ss j)) : ∀ x ∈ ss, IsSt x := by
  intro x hx
  obtain ⟨j, hj, rfl⟩ := List.mem_iff_getElem.1 hx
  have := hst j
  unfold sat at this
  rwa [List.getD, List.getElem?_eq_getElem hj] at this

theorem l04Number_any (n : Int) (w : World) :
    Calls Tryd.prog 29 #[.int .i64 n] w fun e w' => e = .returned (.bool (inB n 0 7)) ∧ w = w' := by
  have H := Lib.hid (in_any n 0 7 w)
  go_enter Tryd.func29, Tryd.ntmps29
  go_wp2_with fail
  refine H.out.mono ?_
  rintro e w' ⟨rfl, rfl⟩
  go_wp2
  go_ret
  exact ⟨rfl, rfl⟩

set_option maxRecDepth 100000 in
set_option maxHeartbeats 2000000 in
theorem with_any (v u : Value) (ss : List Sn) (ns : List Int) (r : Int) (w : World) (h : Strands w v ss) (hN : Ints w u ns) (hl : ns.length ≤ ss.length) (hn : ns.length ≤ 1048576) :
    Calls Tryd.prog 30 #[v, u, .int .i64 r] w fun e w' => ∃ out, e = .returned out ∧ OwnSt w' w.heap.size out (subS ss ns r) ∧ Below w.heap.size w w' := by
  obtain ⟨i0, hi, hz0, hz1, hz2⟩ := info_parts infoStrand
  have hall : ∀ j, IsSt (sat (subS ss ns r) j) := sat_sub r ss ns (isSt_mem h.1)
  have S0 := Lib.hid (show (w.alloc (.cells #[] 51)).ownsRow w.heap.size 51 2 (.slice (some ⟨w.heap.size, 0, none⟩) 0 0) 0 (cellsSt []) from World.ownsRow_made (size := 2) (e := 51) w #[] 0 (Nat.le_refl _) (by decide) rfl)
  have B0 := Lib.hid ((Below.refl w.heap.size w).alloc (Nat.le_refl _) (.cells #[] 51))
  have HS := Lib.hid (fun k hk hk' => subS_step r ss ns k hk hk')
  have HF := Lib.hid (subS_full r ss ns hl)
  have HAll := Lib.hid hall
  have H16 := Lib.hid h.1
  have HV := Lib.hid h
  have HN := Lib.hid hN
  obtain ⟨a0, c0, rfl⟩ := h.len
  obtain ⟨a1, c1, rfl⟩ : ∃ a c, u = .slice a ns.length c := by
    rcases hN with ⟨a, cap, rfl, rfl⟩ | ⟨b, off, cap, rfl, _⟩
    · exact ⟨_, _, rfl⟩
    · exact ⟨_, _, rfl⟩
  clear hN h hall
  obtain ⟨n, hln⟩ : ∃ n, n = ns.length := ⟨_, rfl⟩
  obtain ⟨n2, hln2⟩ : ∃ n, n = ss.length := ⟨_, rfl⟩
  have HLN := Lib.hid hln
  have HLN2 := Lib.hid hln2
  rw [← hln] at hl hn HF ⊢
  rw [← hln2] at hl ⊢
  clear hln hln2
  go_enter Tryd.func30, Tryd.ntmps30
  go_wp2_with fail
  go_loopw [7, 8] (fun v i wr => ∃ (k L : Nat) (u : Value), k ≤ n ∧ i = .int .i64 k ∧ u = v ∧ L ≤ k ∧ Hid (L = (subS (ss.take k) (ns.take k) r).length) ∧ Hid (wr.ownsRow w.heap.size 51 2 v L (cellsSt (subS (ss.take k) (ns.take k) r))) ∧ Hid (Below w.heap.size w wr)) (fun _ i _ => n - (intOf i).toNat)
  case atStart => exact ⟨0, 0, _, Nat.zero_le _, rfl, rfl, Nat.le_refl _, Lib.hid (by rw [List.take_zero, subS_nil_left]; rfl), Lib.hid (by rw [List.take_zero, subS_nil_left]; exact S0.out), B0⟩
  case round =>
    clear S0 B0
    obtain ⟨k, L, v, hk, rfl, rfl, hLk, hL, hO, hE⟩ := hrel
    by_cases hlt : k < n
    · have hki : (k : Int) < (n : Int) := by omega
      have hki2 : (k : Int) < (n2 : Int) := by omega
      obtain ⟨b, off, cz, hv, hb, hcz⟩ := (HV.out.below hE.out).pos (by rw [← HLN2.out]; omega)
      obtain ⟨rfl, rfl⟩ : a0 = some ⟨b, off, none⟩ ∧ c0 = cz := by simp at hv; exact ⟨hv.1, hv.2⟩
      have hcs := hcz k (by rw [← HLN2.out]; omega)
      have hst := H16.out k
      have hS := HS.out k (by rw [← HLN.out]; exact hlt) (by rw [← HLN2.out]; omega)
      obtain ⟨b', off', cz', hv', hcz'⟩ : ∃ b off cap, Value.slice a1 n c1 = .slice (some ⟨b, off, none⟩) n cap ∧ ∀ j, j < n → wr.cell? ⟨b, off + j, none⟩ = some (.int .i64 (ns.getD j 0)) := by
        rcases HN.out.below hE.out with ⟨a, cap, h1, h2⟩ | ⟨b, off, cap, h1, _, _, h3⟩
        · rw [h2] at HLN; have := HLN.out; simp at this; omega
        · exact ⟨b, off, cap, by rw [HLN.out]; exact h1, by rw [HLN.out]; exact h3⟩
      obtain ⟨rfl, rfl⟩ : a1 = some ⟨b', off', none⟩ ∧ c1 = cz' := by simp at hv'; exact ⟨hv'.1, hv'.2⟩
      have q1 := hcz' k hlt
      obtain ⟨y, hy⟩ : ∃ y, y = sat ss k := ⟨_, rfl⟩
      rw [← hy] at hcs hst hS
      obtain ⟨y0, y1⟩ := y
      simp only at hcs
      obtain ⟨p1, p2⟩ := hcs
      generalize ns.getD k 0 = x at *
      clear hv hv' hcz hcz' hy
      have hsz : w.heap.size ≤ wr.heap.size := hE.out.size
      by_cases hx : x = r
      · rw [if_pos hx] at hS
        have hxr : (x == r) = true := by simp [hx]
        have HSS := Lib.hid hS
        have HX := Lib.hid hx
        clear hS hx
        go_wp2_with (first
          | (at_builtin; refine wpList_append_lies _ rfl _ _ _ rfl w.heap.size 51 i0 (.agg #[.int .i16 0, .int .u8 0]) 2 4 Tryd.underlying29 hi hz0 hz1 hz2 rfl (by omega) v L _ rfl (hO.out.alloc _) ⟨wr.heap.size, 0, none⟩ 1 1 [.int .i16 y0, .int .u8 y1] rfl rfl (World.news_of_block (heap_alloc_new wr _)) (two_val _ _ _ _) (by omega) (by unfold maxLen; omega) (by omega) (by simp; omega) (wr.heap.size + 1) (by simp) ?_; intro gg cap w3 hown3 hgrow hat hlt2)
          | fail)
        have hE3 := Lib.hid (hE.out.grown (grown_allocS hgrow) hsz (fun k hk => (hO.out.lt k hk).1))
        have HO3 : Hid (w3.ownsRow w.heap.size 51 2 (.slice (some ⟨gg, 0, none⟩) (L + 1) cap) (L + 1) (cellsSt (subS (ss.take (k + 1)) (ns.take (k + 1)) r))) := by
          rw [HSS.out, cellsSt_app]
          exact hown3
        have HL3 := Lib.hid (show L + 1 = (subS (ss.take (k + 1)) (ns.take (k + 1)) r).length by rw [HSS.out, List.length_append, ← hL.out]; rfl)
        clear hgrow hown3 hat hlt2 p1 p2 q1
        go_wp2
        go_roundw
        case rel => exact ⟨k + 1, L + 1, _, by omega, by go_num, rfl, by omega, HL3, HO3, hE3⟩
        case measure => simp [intOf]; omega
      · rw [if_neg hx, List.append_nil] at hS
        have hxr : (x == r) = false := by simp [hx]
        have HL3 := Lib.hid (show L = (subS (ss.take (k + 1)) (ns.take (k + 1)) r).length by rw [hS]; exact hL.out)
        have HO3 := Lib.hid (show wr.ownsRow w.heap.size 51 2 v L (cellsSt (subS (ss.take (k + 1)) (ns.take (k + 1)) r)) by rw [hS]; exact hO.out)
        clear hS hx
        go_wp2
        go_roundw
        case rel => exact ⟨k + 1, L, v, by omega, by go_num, rfl, by omega, HL3, HO3, hE⟩
        case measure => simp [intOf]; omega
    · have hkn : k = n := by omega
      subst hkn
      have HO3 := Lib.hid (show OwnSt wr w.heap.size v (subS ss ns r) from ⟨HAll.out, by
        have h1 := hO.out
        have h2 := hL.out
        rw [HF.out] at h1 h2
        rw [← h2]
        exact h1⟩)
      go_wp2
      go_ret
      exact ⟨_, rfl, HO3.out, hE.out⟩
end Go.Proofs.YtaanjjmochfhgaaDoor
