/- Two laws for a statement of open order inside a round of a loop over a function: without a defer it goes as outside of one; an append to a slice of the call's own as one of its steps. -/
import Derived.RangeFuncNested
import Derived.RangeFuncCalls
import Derived.OwnWalkIn
import Derived.Shelf.RegionOpen
import Derived.Laws.AppendOwn
namespace Go.Proofs.Ythojlfcahhjfaaa
open Go.RowKit

theorem uponIn_round_iff {F : Fence} {l n : Nat} {P : Program} {o : Oper} {a : Act} {next : Act → World → Prop} {Q : Exit → Act → World → Prop} {r : Result Next} :
    o.uponIn F n P a next Q r → o.uponIn (F.inRound l) n P a next Q r := by
  intro h
  cases r with
  | ok x w => cases x <;> exact h
  | halt x w => cases x <;> exact h

def plainOp (o : Oper) : Bool := match o.op with | .defer _ => false | _ => true

theorem plainOp_spec {o : Oper} (h : plainOp o = true) : ∀ c, o.op ≠ .defer c := by
  intro c e
  unfold plainOp at h
  rw [e] at h
  simp at h

theorem wpIn_op_round {F : Fence} {l n : Nat} {P : Program} {o : Oper} {a : Act} {w : World} {K : Act → World → Prop} {Q : Exit → Act → World → Prop} (hro : F.round = none) (hp : plainOp o = true) (h : o.wpIn F n P a w K Q) : o.wpIn (F.inRound l) n P a w K Q := by
  unfold Oper.wpIn at *
  refine ⟨h.1, uponIn_round_iff ?_⟩
  have h2 := h.2
  rw [hro, Oper.semAt_none] at h2
  rw [Fence.inRound_round, Oper.semAt_some l _ _ (plainOp_spec hp)]
  exact h2

theorem wpAnyIn_round {F : Fence} {l n : Nat} {P : Program} {md : Region.Mode} {ops : Array Oper} {Q : Exit → Act → World → Prop} (hro : F.round = none) (hp : ∀ (i : Nat) (o : Oper), ops[i]? = some o → plainOp o = true) :
    ∀ (fuel : Nat) (listed : Array Bool) (a : Act) (w : World), wpAnyIn F n P md ops Q fuel listed a w → wpAnyIn (F.inRound l) n P md ops Q fuel listed a w
  | 0, _, _, _, h => h
  | fuel + 1, listed, a, w, h => by
    refine ⟨h.1, fun i hi => ?_⟩
    have h2 := h.2 i hi
    have h3 := wpOpIn_mono (K' := wpAnyIn (F.inRound l) n P md ops Q fuel (listed.setIfInBounds i true)) (fun a w q => wpAnyIn_round hro hp fuel _ a w q) h2
    unfold wpOpIn at *
    split
    · rename_i ho; simp only [ho] at h3; exact h3
    · rename_i o ho
      simp only [ho] at h3
      split
      · rename_i hw; simp only [hw, if_true] at h3; exact wpIn_op_round hro (hp i o ho) h3
      · rename_i hw; simp only [hw] at h3; exact h3

theorem plain_all {ops : Array Oper} (h : ops.toList.all plainOp = true) : ∀ (i : Nat) (o : Oper), ops[i]? = some o → plainOp o = true := by
  intro i o ho
  refine List.all_eq_true.1 h o ?_
  have := Array.getElem?_eq_some_iff.1 ho
  obtain ⟨hi, e⟩ := this
  rw [← e]
  simp

theorem region_round {l n : Nat} {P : Program} {id : Nat} {ops : Array Oper} {Q : Exit → Act → World → Prop} {a : Act} {w : World} (hm : P.follows .mixedOrders = true) (hp : ops.toList.all plainOp = true)
    (h : wpAnyIn Fence.wide n P .any ops Q ops.size (Array.replicate ops.size false) a w.drew) : (Code.region id ops true).wpIn (Fence.wide.inRound l) n P Q a w :=
  wpIn_region_any hm (wpAnyIn_round rfl (plain_all hp) _ _ _ _ h)

theorem stepIn_append_own {F : Fence} {n : Nat} {P : Program} {ops : Array Oper} {o : Oper} {a : Act} {w : World} {K : Act → World → Prop} {Q : Exit → Act → World → Prop} {E : Prop}
    (hro : F.round = none) (hg : o.guard = none) (s x : Operand) (t : TypeId) (hop : o.op = Op.call { callee := Callee.builtin Builtin.append, args := #[s, x], argTypes := #[t, t] }) (ty : TypeId) (hty : o.type = ty)
    (v : Value) (y : Value) (hs : a.eval s = v) (hx : a.eval x = y) (v' : Value) (w' : World) (hrun : (Builtin.append_ #[t, t] ty #[v, y]).run P w = .ok v' w') (hK : K (a.put o.dst v') w') :
    if Region.wanted o (yielded ops a.tmps) = true then Oper.wpIn F n P o a w K Q else E := by
  have hw : Region.wanted o (yielded ops a.tmps) = true := by simp [Region.wanted, hg]
  rw [if_pos hw]
  subst hty
  unfold Oper.wpIn
  refine ⟨?_, ?_⟩
  · simp [Oper.about, hop, resolve, Target.leads, Sem.run_pure]
  · rw [hro, Oper.semAt_none]
    simp [execOp, hop, resolve, invoke, builtin, hs, hx, hrun, Result.andThen]
    exact hK

end Go.Proofs.Ythojlfcahhjfaaa
