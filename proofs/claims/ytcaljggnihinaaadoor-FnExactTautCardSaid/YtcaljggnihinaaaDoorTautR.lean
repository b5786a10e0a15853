/- Steps of a statement of open order by hand: one operation is ready, or two. -/
import Derived.Test.YtcaljggnihinaaaDoorRoundsH
import Derived.RegionTactic
namespace Go.Proofs.YtcaljggnihinaaaDoor
open Go.RowKit

theorem any_one {P : Program} {md : Region.Mode} {ops : Array Oper} {Q : Exit → Act → World → Prop} {fuel : Nat} {listed : Array Bool} {a : Act} {w w' : World} (i : Nat) {o : Oper} (v : Value) (hr : Region.ready md ops listed = [i]) (ho : ops[i]? = some o) (hw : Region.wanted o (yielded ops a.tmps) = true)
    (hrun : ((execOp a.eval o).run P w = .ok (.value v) w') ∨ ((execOp a.eval o).run P w = .ok .skip w' ∧ v = undef)) (h : wpAny P md ops Q fuel (listed.setIfInBounds i true) (a.put o.dst v) w') : wpAny P md ops Q (fuel + 1) listed a w :=
  wpAny_ready hr (by simp) (AllReady.cons ho (fun K hK => by
    rw [if_pos hw]
    unfold Oper.wp
    rcases hrun with hrun | ⟨hrun, rfl⟩
    · rw [hrun]; exact hK _ _ h
    · rw [hrun]; exact hK _ _ h) AllReady.nil)

theorem any_two {P : Program} {md : Region.Mode} {ops : Array Oper} {Q : Exit → Act → World → Prop} {fuel : Nat} {listed : Array Bool} {a : Act} {w w1 w2 : World} (i j : Nat) {o1 o2 : Oper} (v1 v2 : Value) (hr : Region.ready md ops listed = [i, j]) (ho1 : ops[i]? = some o1) (ho2 : ops[j]? = some o2)
    (hw1 : Region.wanted o1 (yielded ops a.tmps) = true) (hw2 : Region.wanted o2 (yielded ops a.tmps) = true)
    (hrun1 : (execOp a.eval o1).run P w = .ok (.value v1) w1) (hrun2 : (execOp a.eval o2).run P w = .ok (.value v2) w2)
    (h1 : wpAny P md ops Q fuel (listed.setIfInBounds i true) (a.put o1.dst v1) w1) (h2 : wpAny P md ops Q fuel (listed.setIfInBounds j true) (a.put o2.dst v2) w2) : wpAny P md ops Q (fuel + 1) listed a w :=
  wpAny_ready hr (by simp) (AllReady.cons ho1 (fun K hK => by rw [if_pos hw1]; unfold Oper.wp; rw [hrun1]; exact hK _ _ h1)
    (AllReady.cons ho2 (fun K hK => by rw [if_pos hw2]; unfold Oper.wp; rw [hrun2]; exact hK _ _ h2) AllReady.nil))

section
variable {P : Program} {o : Oper} {a : Act} {w w' : World}
theorem exec_load {ty : TypeId} {x : Operand} {g : Addr} {v : Value} (ho : o.op = .load ty x) (hx : a.eval x = .pointer (some g)) (h : (loadVar ty g).run P w = .ok v w) : (execOp a.eval o).run P w = .ok (.value v) w := by
  unfold execOp
  simp only [ho, hx, Instr.loadAt, Instr.sureAddr, Sem.run_bind, Sem.run_pure, Result.andThen_ok, h]
theorem exec_lookup {t : TypeId} {m k : Operand} {mv kv v : Value} (ho : o.op = .lookup t m k false) (hm : a.eval m = mv) (hk : a.eval k = kv) (h : (Instr.lookup t mv kv false).run P w = .ok v w) : (execOp a.eval o).run P w = .ok (.value v) w := by
  unfold execOp
  simp only [ho, hm, hk, Sem.run_bind, Sem.run_pure, Result.andThen_ok, h]
theorem exec_entry {t : TypeId} {m k : Operand} {mv kv v : Value} (ho : o.op = .mapEntry t m k) (hm : a.eval m = mv) (hk : a.eval k = kv) (h : (Instr.mapEntry t mv kv).run P w = .ok v w') : (execOp a.eval o).run P w = .ok (.value v) w' := by
  unfold execOp
  simp only [ho, hm, hk, Sem.run_bind, Sem.run_pure, Result.andThen_ok, h]
theorem exec_entryStore {t : TypeId} {m k x : Operand} {mv kv xv : Value} (ho : o.op = .entryStore t m k x) (hm : a.eval m = mv) (hk : a.eval k = kv) (hx : a.eval x = xv) (h : (Instr.entryStore t mv kv xv).run P w = .ok () w') : (execOp a.eval o).run P w = .ok .skip w' := by
  unfold execOp
  simp only [ho, hm, hk, hx, Sem.run_bind, Sem.run_pure, Result.andThen_ok, h]
theorem exec_extract {x : Operand} {v1 v2 : Value} (ho : o.op = .extract x 1) (hx : a.eval x = .tuple #[v1, v2]) : (execOp a.eval o).run P w = .ok (.value v2) w := by
  unfold execOp
  simp only [ho, hx]
  simp [go_sem, Instr.extract]
theorem exec_add {x : Operand} {n m : Int} (hm : IntKind.i64.wrap (n + 1) = m) (ho : o.op = .binOp .add 3 x (.const (.int .i64 1)) 3) (hx : a.eval x = .int .i64 n) : (execOp a.eval o).run P w = .ok (.value (.int .i64 m)) w := by
  unfold execOp
  simp only [ho, hx]
  simp [go_sem, hm]
end

end Go.Proofs.YtcaljggnihinaaaDoor
