/- General words, over any program: a struct loaded or stored, as one step of a region that draws its order. -/
import Derived.Test.YtbdbcjhahlofiaaDoorKitC
namespace Go.Proofs.YtbdbcjhahlofiaaDoor.kit
section
variable {P : Program} {ops : Array Oper} {o : Oper} {a : Act} {w : World} {K : Act → World → Prop} {Q : Exit → Act → World → Prop} {E : Prop}
theorem step_load_at (hg : o.guard = none) (ty : TypeId) (x : Operand) (ho : o.op = .load ty x)
    (h off : Nat) (hx : a.eval x = .pointer (some ⟨h, off, none⟩)) (cs : Array Value) (d : TypeDesc) (C : Cel w h off cs)
    (hu : P.underlying ty = some d) (hd : (match d with | .struct _ | .array _ _ => true | _ => false) = true) (hi : (P.info? ty).map (·.size) = some cs.size)
    (k : K (a.put o.dst (.agg cs)) w) : if Region.wanted o (yielded ops a.tmps) = true then Oper.wp P o a w K Q else E := by
  have hw : Region.wanted o (yielded ops a.tmps) = true := by simp [Region.wanted, hg]
  rw [if_pos hw]
  unfold Oper.wp execOp
  simp only [ho, hx, Instr.loadAt, Instr.sureAddr, Sem.run_bind, Sem.run_pure, Result.andThen_ok, run_loadVar_at ty d C hu hd hi]
  exact k
theorem step_store_at (hg : o.guard = none) (ty : TypeId) (x y : Operand) (ho : o.op = .store ty x y)
    (h off : Nat) (cs : Array Value) (hx : a.eval x = .pointer (some ⟨h, off, none⟩)) (hy : a.eval y = .agg cs)
    (old : Array Value) (C : Cel w h off old) (hi : (P.info? ty).map (·.size) = some cs.size) (hs : old.size = cs.size) (h1 : cs.all (·.oneCell') = true)
    (k : K (a.put o.dst undef) (w.setCells h off cs.toList)) : if Region.wanted o (yielded ops a.tmps) = true then Oper.wp P o a w K Q else E := by
  have hw : Region.wanted o (yielded ops a.tmps) = true := by simp [Region.wanted, hg]
  rw [if_pos hw]
  unfold Oper.wp execOp
  simp only [ho, hx, hy, Instr.storeAt, Instr.sureAddr, Sem.run_bind, Sem.run_pure, Result.andThen_ok, run_storeVar_at ty C hi hs h1]
  exact k
end
end Go.Proofs.YtbdbcjhahlofiaaDoor.kit
