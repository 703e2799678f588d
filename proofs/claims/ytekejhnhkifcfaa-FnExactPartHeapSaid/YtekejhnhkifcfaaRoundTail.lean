/-
  No statement is proved here: a region whose order is open, walked inside a round of a range over a function: its operations make no call; the reads come in whatever order ahead of the last ones.
-/
import Derived.Test.YtekejhnhkifcfaaBase
import Derived.StillTailTactics
import Derived.OrdersIn
namespace Go.Proofs.Ytekejhnhkifcfaa
open Go.RowKit

/-- An operation that makes no call, whatever its operands are. -/
def plainOp : Op → Bool
  | .move _ | .assign _ | .alloc _ | .load _ _ | .store _ _ _ | .binOp _ _ _ _ _ | .unOp _ _ _ | .convert _ _ _ | .fieldAddr _ _ _ | .field _ _ _ | .indexAddr _ _ _ | .index _ _ _ | .build _ _ => true
  | _ => false
theorem run_v {P : Program} {w : World} (s : Sem Value) : (∃ v w', (do pure (Next.value (← s)) : Sem Next).run P w = .ok (.value v) w') ∨ ∃ h w', (do pure (Next.value (← s)) : Sem Next).run P w = .halt h w' := by
  simp only [Sem.run_bind, Sem.run_pure]
  cases s.run P w with
  | ok v w' => exact .inl ⟨v, w', rfl⟩
  | halt h w' => exact .inr ⟨h, w', rfl⟩
theorem run_u {P : Program} {w : World} (s : Sem Unit) : (∃ w', (do s; pure Next.skip : Sem Next).run P w = .ok .skip w') ∨ ∃ h w', (do s; pure Next.skip : Sem Next).run P w = .halt h w' := by
  simp only [Sem.run_bind, Sem.run_pure]
  cases s.run P w with
  | ok v w' => exact .inl ⟨w', rfl⟩
  | halt h w' => exact .inr ⟨h, w', rfl⟩
def Quiet3 (r : Result Next) : Prop := (∃ v w', r = .ok (.value v) w') ∨ (∃ w', r = .ok .skip w') ∨ ∃ h w', r = .halt h w'
theorem quiet_v {P : Program} {w : World} (s : Sem Value) : Quiet3 ((do pure (Next.value (← s)) : Sem Next).run P w) := by
  rcases run_v (P := P) (w := w) s with h | h
  · exact .inl h
  · exact .inr (.inr h)
theorem quiet_u {P : Program} {w : World} (s : Sem Unit) : Quiet3 ((do s; pure Next.skip : Sem Next).run P w) := by
  rcases run_u (P := P) (w := w) s with h | h
  · exact .inr (.inl h)
  · exact .inr (.inr h)
theorem plain_run {P : Program} {ρ : Operand → Value} {o : Oper} {w : World} (h : plainOp o.op = true) : Quiet3 ((execOp ρ o).run P w) := by
  unfold execOp
  cases ho : o.op <;> rw [ho] at h <;> first
    | (simp only [plainOp, Bool.false_eq_true] at h; done)
    | exact .inl ⟨_, _, rfl⟩
    | exact quiet_v _
    | exact quiet_u _
theorem plain_in {P : Program} {F : Fence} {n : Nat} {o : Oper} {a : Act} {w : World} {K : Act → World → Prop} {Q : Exit → Act → World → Prop} (h : plainOp o.op = true) (hh : o.wp P a w K Q) : o.wpIn F n P a w K Q := by
  have hnd : ∀ c, o.op ≠ .defer c := fun c e => by rw [e] at h; simp [plainOp] at h
  refine ⟨fun f hf => ?_, ?_⟩
  · unfold Oper.about at hf
    cases ho : o.op <;> rw [ho] at hf h <;> simp [plainOp] at hf h
  · rw [Oper.semAt_eq _ _ _ hnd]
    unfold Oper.wp at hh
    rcases plain_run (P := P) (ρ := a.eval) (o := o) (w := w) h with ⟨v, w', e⟩ | ⟨w', e⟩ | ⟨x, w', e⟩
    · rw [e] at hh ⊢; exact hh
    · rw [e] at hh ⊢; exact hh
    · rw [e] at hh ⊢; cases x <;> exact hh
theorem anyIn_of {P : Program} {F : Fence} {n : Nat} {md : Region.Mode} {ops : Array Oper} {Q : Exit → Act → World → Prop} (hp : ∀ (i : Nat) (o : Oper), ops[i]? = some o → plainOp o.op = true) (hL : ¬ LetsOut Q) :
    ∀ (fuel : Nat) (listed : Array Bool) (a : Act) (w : World), wpAny P md ops Q fuel listed a w → wpAnyIn F n P md ops Q fuel listed a w
  | 0, _, _, _, h => h
  | fuel + 1, listed, a, w, h => by
    refine ⟨h.1, fun i hi => ?_⟩
    have h2 := h.2 i hi
    unfold wpOp at h2
    unfold wpOpIn
    cases ho : ops[i]? with
    | none => rw [ho] at h2; exact anyIn_of hp hL fuel _ a w h2
    | some o =>
      rw [ho] at h2
      simp only at h2 ⊢
      by_cases hw : Region.wanted o (yielded ops a.tmps) = true
      · rw [if_pos hw] at h2 ⊢
        rcases h2 with h2 | h2
        · exact Oper.wpIn_mono (fun a w => anyIn_of hp hL fuel _ a w) (plain_in (hp i o ho) h2)
        · exact absurd h2.2 hL
      · rw [if_neg hw] at h2 ⊢
        refine ⟨fun f hf => ?_, anyIn_of hp hL fuel _ _ w h2⟩
        have h := hp i o ho
        unfold Oper.about at hf
        cases hoo : o.op <;> rw [hoo] at hf h <;> simp [plainOp] at hf h
def plainAll (l : List Oper) : Bool := l.all fun o => plainOp o.op
/-- Reads in whatever order, and then the rest in its order: inside a fence, too. -/
theorem in_region_still_tail {P : Program} {F : Fence} {m : Nat} {id : Nat} {Q : Exit → Act → World → Prop} {a : Act} {w : World} {l : List Oper} (n : Nat) (hm : P.follows .mixedOrders = true) (hB : Region.lexTailB .any l.toArray n = true) (hp : plainAll l = true) (hL : ¬ LetsOut Q)
    (h : wpStill P l.toArray w.drew (fun a' => wpList P l.toArray Q (l.drop n) a' w.drew) (l.take n) a) : (Code.region id l.toArray true).wpIn F m P Q a w := by
  simp only [Region.lexTailB, Bool.and_eq_true, decide_eq_true_eq] at hB
  obtain ⟨⟨⟨⟨hsel, hn⟩, hs⟩, hc⟩, hlex⟩ := hB
  have hnl : n < l.length := by simpa using hn
  have lt : (l.take n).length = n := by simp; omega
  have ld : (l.drop n).length = l.toArray.size - n := by simp
  have start : HeadInv .any l.toArray n (Array.replicate l.toArray.size false) :=
    { size := by simp, closed := fun j oj _ hl => (by rw [getD_replicate_false] at hl; cases hl), tail := fun t _ ht => getD_in (by simpa using ht) (getD_replicate_false _ _) }
  have head := wpAnyL_lex (md := .any) (g := l.toArray.size - n) hsel hs hc hn (l.take n) 0 _ a (fun j hj => by
    rw [lt] at hj
    simp [hj]) (by simpa using lt) start (by rw [lt]; exact hlex) h
  have whole := wpAny_of_head (Q' := Q) (g := l.toArray.size - n) (fun listed a' hq => by
    have t := wpAny_of_seq (md := .any) (Q' := Q) (l.drop n) n listed a' w.drew (fun j => by simp [List.getElem?_drop]) (by rw [ld]; exact hq.1) hq.2
    rwa [ld] at t) _ _ _ head
  rw [lt, show n + (l.toArray.size - n) = l.toArray.size by omega] at whole
  refine wpIn_region_any hm (anyIn_of (fun i o ho => ?_) hL _ _ _ _ whole)
  have : o ∈ l := by
    rw [List.getElem?_toArray] at ho
    exact List.mem_of_getElem? ho
  exact List.all_eq_true.1 hp o this
end Go.Proofs.Ytekejhnhkifcfaa
