/- Which chunks may come in which state (tags.May), for every type of 8 bits and every state. No further condition. -/
import Derived.Test.YtoaocppdbgphgaaRows
import Derived.Test.YtoaocppdbgphgaaKit
import Derived.Outline
namespace Go.Proofs.Ytoaocppdbgphgaa.tags
open Go.ChangeShapes Go.WideShapes Go.ChangeAt Go.RowKit kit

def mayB (t st : Int) : Bool :=
  if t = 2 then decide (st = 1) else if t = 11 then decide (st = 2) else if t = 0 then decide (3 ≤ st ∧ st ≤ 5) else if t = 3 then decide (2 ≤ st)
  else if t = 193 ∨ t = 128 ∨ t = 130 then decide (3 ≤ st ∧ st ≤ 6) else if t = 4 ∨ t = 5 ∨ t = 7 then decide (3 ≤ st) else if t = 8 then decide (st = 5 ∨ st = 7)
  else if t = 14 then decide (st = 7) else if t = 6 ∨ t = 9 ∨ t = 10 then decide (st ≠ 0) else false

set_option maxHeartbeats 1000000 in
theorem law_may (t st : Int) (w : World) : Calls Try.prog 25 #[.int .i64 t, .int .i64 st] w fun e w' => e = .returned (.bool (mayB t st)) ∧ w = w' := by
  go_enter Try.func25, Try.ntmps25
  go_wp2
  all_goals (go_ret; refine ⟨ret_bool ?_, rfl⟩; unfold mayB; simp_all <;> (try (rw [Bool.eq_iff_iff]; simp)) <;> (try omega))
end Go.Proofs.Ytoaocppdbgphgaa.tags
