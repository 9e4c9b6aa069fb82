/- General words, over any program: a call by its contract, as one step of a region that draws its order. -/
import Derived.Test.YthjhiogbnacmdaaKitB
import Derived.Deep.RegionLaw
namespace Go.Proofs.Ythjhiogbnacmdaa.kit
theorem step_call {P : Program} {ops : Array Oper} {o : Oper} {a : Act} {w : World} {K : Act → World → Prop} {Q : Exit → Act → World → Prop} {E : Prop}
    (hg : o.guard = none) (f : FuncId) (fn : Func) (xs : Array Operand) (ts : Array TypeId) (hop : o.op = .call { callee := .value (.func f), args := xs, argTypes := ts })
    (hf : P.funcs[f]? = some fn) (hn : (fn.name == "runtime.NumGoroutine") = false) (hb : fn.body.isNone = false)
    (vs : Array Value) (hx : xs.map a.eval = vs) {v : Value} {R : World → Prop} (h : Calls P f vs w fun e w' => e = .returned v ∧ R w') (k : ∀ w', R w' → K (a.put o.dst v) w') :
    if Region.wanted o (yielded ops a.tmps) = true then Oper.wp P o a w K Q else E := by
  subst hx
  have hw : Region.wanted o (yielded ops a.tmps) = true := by simp [Region.wanted, hg]
  rw [if_pos hw]
  have hrun : (execOp a.eval o).run P w = .ok (.enter f (xs.map a.eval)) w := by
    have h1 : ¬ fn.name = "runtime.NumGoroutine" := by simpa using hn
    have h2 : ¬ fn.body = none := by intro q; rw [q] at hb; cases hb
    simp [execOp, hop, resolve, invoke, Act.eval, Result.andThen, Deferred.ofValue, callFunc, hf, h1, h2]
  unfold Oper.wp
  rw [hrun]
  exact h.mono fun e w' ⟨he, hr⟩ => by subst he; exact k w' hr
/-- The same of a call that stands behind a guard. -/
theorem step_callg {P : Program} {ops : Array Oper} {o : Oper} {a : Act} {w : World} {K : Act → World → Prop} {Q : Exit → Act → World → Prop} {E : Prop}
    (hw : Region.wanted o (yielded ops a.tmps) = true) (f : FuncId) (fn : Func) (xs : Array Operand) (ts : Array TypeId) (hop : o.op = .call { callee := .value (.func f), args := xs, argTypes := ts })
    (hf : P.funcs[f]? = some fn) (hn : (fn.name == "runtime.NumGoroutine") = false) (hb : fn.body.isNone = false)
    (vs : Array Value) (hx : xs.map a.eval = vs) {v : Value} {R : World → Prop} (h : Calls P f vs w fun e w' => e = .returned v ∧ R w') (k : ∀ w', R w' → K (a.put o.dst v) w') :
    if Region.wanted o (yielded ops a.tmps) = true then Oper.wp P o a w K Q else E := by
  subst hx
  rw [if_pos hw]
  have hrun : (execOp a.eval o).run P w = .ok (.enter f (xs.map a.eval)) w := by
    have h1 : ¬ fn.name = "runtime.NumGoroutine" := by simpa using hn
    have h2 : ¬ fn.body = none := by intro q; rw [q] at hb; cases hb
    simp [execOp, hop, resolve, invoke, Act.eval, Result.andThen, Deferred.ofValue, callFunc, hf, h1, h2]
  unfold Oper.wp
  rw [hrun]
  exact h.mono fun e w' ⟨he, hr⟩ => by subst he; exact k w' hr
/-- The same by a contract of any form. -/
theorem step_call2 {P : Program} {ops : Array Oper} {o : Oper} {a : Act} {w : World} {K : Act → World → Prop} {Q : Exit → Act → World → Prop} {E : Prop}
    (hg : o.guard = none) (f : FuncId) (fn : Func) (xs : Array Operand) (ts : Array TypeId) (hop : o.op = .call { callee := .value (.func f), args := xs, argTypes := ts })
    (hf : P.funcs[f]? = some fn) (hn : (fn.name == "runtime.NumGoroutine") = false) (hb : fn.body.isNone = false)
    (vs : Array Value) (hx : xs.map a.eval = vs) {R : Ending → World → Prop} (h : Calls P f vs w R) (k : ∀ e w', R e w' → ∃ v, e = .returned v ∧ K (a.put o.dst v) w') :
    if Region.wanted o (yielded ops a.tmps) = true then Oper.wp P o a w K Q else E := by
  subst hx
  have hw : Region.wanted o (yielded ops a.tmps) = true := by simp [Region.wanted, hg]
  rw [if_pos hw]
  have hrun : (execOp a.eval o).run P w = .ok (.enter f (xs.map a.eval)) w := by
    have h1 : ¬ fn.name = "runtime.NumGoroutine" := by simpa using hn
    have h2 : ¬ fn.body = none := by intro q; rw [q] at hb; cases hb
    simp [execOp, hop, resolve, invoke, Act.eval, Result.andThen, Deferred.ofValue, callFunc, hf, h1, h2]
  unfold Oper.wp
  rw [hrun]
  exact h.mono fun e w' hr => by obtain ⟨v, rfl, hk⟩ := k e w' hr; exact hk
/-- A struct or array loaded out of any place, behind a guard that lets it. -/
theorem wpList_load_at_g {P : Program} {ops : Array Oper} {rest : List Oper} {q : Oper} {a : Act} {w : World} {Q : Exit → Act → World → Prop} (hgd : Region.wanted q (yielded ops a.tmps) = true) (ty : TypeId) (x : Operand) (ho : q.op = .load ty x)
    (h o : Nat) (hx : a.eval x = .pointer (some ⟨h, o, none⟩)) (cs : Array Value) (d : TypeDesc) (C : Cel w h o cs)
    (hu : P.underlying ty = some d) (hd : (match d with | .struct _ | .array _ _ => true | _ => false) = true) (hi : (P.info? ty).map (·.size) = some cs.size)
    (k : wpList P ops Q rest (a.put q.dst (.agg cs)) w) : wpList P ops Q (q :: rest) a w :=
  wpList_step fun K hK => by
    rw [if_pos hgd]
    unfold Oper.wp execOp
    simp only [ho, hx, Instr.loadAt, Instr.sureAddr, Sem.run_bind, Sem.run_pure, Result.andThen_ok, run_loadVar_at ty d C hu hd hi]
    exact hK _ _ k
end Go.Proofs.Ythjhiogbnacmdaa.kit
