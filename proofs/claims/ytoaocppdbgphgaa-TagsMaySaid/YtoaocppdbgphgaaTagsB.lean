import Derived.Test.YtoaocppdbgphgaaTags
import Derived.Outline
namespace Go.Proofs.Ytoaocppdbgphgaa.tags
open Go.ChangeShapes Go.WideShapes Go.ChangeAt Go.RowKit kit

set_option maxRecDepth 100000 in
set_option maxHeartbeats 4000000 in
theorem may_any (t st : Int) (w : World) (h0 : 0 ≤ st) (h7 : st ≤ 7) : Calls Try.prog 24 #[.agg #[.int .i64 t, .int .i64 0, .int .u32 0, .int .i64 0, .int .i64 0, .int .u32 0, .string ByteArray.empty, .int .u32 0, .int .u32 0, .int .i64 0, .int .i64 0, .slice none 0 0, .slice none 0 0, .slice none 0 0, .slice none 0 0], .int .i64 st] w fun e w' => e = .returned (.bool (mayB t st)) ∧ Below w.heap.size w w' := by
  go_enter Try.func24, Try.ntmps24
  go_wp2
  all_goals (go_ret; refine ⟨ret_bool ?_, by repeat (first | exact Below.refl _ _ | (refine Below.alloc ?_ (by simp; try omega) _))⟩; unfold mayB; simp_all <;> (try (rw [Bool.eq_iff_iff]; simp)) <;> (try omega))
end Go.Proofs.Ytoaocppdbgphgaa.tags
