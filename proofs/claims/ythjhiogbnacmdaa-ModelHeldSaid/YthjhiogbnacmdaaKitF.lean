/- General words, over any program: a struct loaded in a region that only reads and makes memory. -/
import Derived.Test.YthjhiogbnacmdaaKitC
import Derived.Lib.QuietBelow
import Derived.BigQuiet
namespace Go.Proofs.Ythjhiogbnacmdaa.kit
/-- A struct loaded out of any place, in a region that only reads and makes memory, behind a guard that lets it. -/
theorem wpQuiet_load_at {P : Program} {ops : Array Oper} {C : World → Prop} {Q : Act → Prop} {a : Act} {o : Oper} {rest : List Oper} (hgd : Region.wanted o (yielded ops a.tmps) = true) (ty : TypeId) (x : Operand) (ho : o.op = .load ty x)
    (h off : Nat) (hx : a.eval x = .pointer (some ⟨h, off, none⟩)) (cs : Array Value) (d : TypeDesc) (hu : P.underlying ty = some d) (hd : (match d with | .struct _ | .array _ _ => true | _ => false) = true) (hi : (P.info? ty).map (·.size) = some cs.size)
    (hc : ∀ w, C w → Cel w h off cs) (k : wpQuiet P ops C Q rest (a.put o.dst (.agg cs))) : wpQuiet P ops C Q (o :: rest) a :=
  wpQuiet_step fun K hK => by
    rw [if_pos hgd]
    refine ⟨.agg cs, fun w hw => ?_, hK _ k⟩
    unfold Oper.quietAt execOp
    simp only [ho, hx, Instr.loadAt, Instr.sureAddr, Sem.run_bind, Sem.run_pure, Result.andThen_ok, run_loadVar_at ty d (hc w hw) hu hd hi]
    exact ⟨rfl, rfl⟩
end Go.Proofs.Ythjhiogbnacmdaa.kit
