/- Layer 38: whether an entry lets a packet in to one inside; the statement walked (gen-own.py wrote this). -/
import Derived.Test.YthjhiogbnacmdaaOwnA
namespace Go.Proofs.Ythjhiogbnacmdaa.aud
open Go.Sort (grow)
open Go.ChangeShapes Go.WideShapes Go.ChangeAt Go.RowKit kit
set_option maxRecDepth 100000

theorem run_and {P : Program} {oi : Oper} {a : Act} {x y : Operand} {tx ty : TypeId} {s j u : Value} {v : World} (ho : oi.op = .binOp .and tx x y ty) (hx : a.eval x = s) (hy : a.eval y = j) (hr : (binOp .and tx s j).run P v = .ok u v) : (execOp a.eval oi).run P v = .ok (.value u) v := by
  unfold execOp
  simp [ho, hx, hy, eqGuard, hr]
theorem andI (x y : Int) (W : World) : (binOp .and 3 (.int .i64 x) (.int .i64 y)).run Try.prog W = .ok (.int .i64 (bits .and .i64 x y)) W := by go_simp
theorem andU (x y : Int) (W : World) : (binOp .and 23 (.int .u32 x) (.int .u32 y)).run Try.prog W = .ok (.int .u32 (bits .and .u32 x y)) W := by go_simp
theorem ret_b {a b : Bool} (h : a = b) : Value.bool a = .bool b := by rw [h]
/-- The same in the statement's order. -/
def hitL (f t g : Int) (m : Bool) (e : Ent) : Bool := decide (e.1 = 1) && decide (e.2.2.1 = 9) && decide (e.2.1 = t) && decide (e.2.2.2.1 = f) && decide ((bif m then e.2.2.2.2.2.1 else e.2.2.2.2.1) = g) && !decide (g = 0)
theorem hit_any (f t g : Int) (m : Bool) (L : List Ent) : (!decide (g = 0) && L.any (hitE f t g m)) = L.any (hitL f t g m) := by
  by_cases hg : g = 0
  · have : ∀ e, hitL f t g m e = false := fun e => by unfold hitL; simp [hg]
    simp [hg, List.any_eq_false, this]
    intro a b c d e f' g' _
    have := this (a, b, c, d, e, f', g')
    simpa [hg] using this
  · have : hitL f t g m = hitE f t g m := by
      funext e
      unfold hitL hitE
      simp only [hg, decide_false, Bool.not_false, Bool.and_true]
      cases decide (e.1 = 1) <;> cases decide (e.2.2.1 = 9) <;> cases decide (e.2.1 = t) <;> cases decide (e.2.2.2.1 = f) <;> simp
    rw [this]
    simp [hg]
theorem nl_succ (E : Nat → Ent) (n : Nat) : nl E (n + 1) = nl E n ++ [nr (E n)] := rfl
end Go.Proofs.Ythjhiogbnacmdaa.aud
