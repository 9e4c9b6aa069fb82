/- What is done with a cookie (clash.Of) is what the document's table says, for every cookie and every two tags. No further condition. -/
import Derived.Test.YtoaocppdbgphgaaRows
import Derived.Test.YtoaocppdbgphgaaKit
import Derived.Outline
import Derived.BigRegion
import Derived.RegionTactic
import Derived.Deep.DeepCutAuto
namespace Go.Proofs.Ytoaocppdbgphgaa.clash
open Go.ChangeShapes Go.WideShapes Go.ChangeAt Go.RowKit kit

theorem awake_any (w : World) : Calls Try.prog 27 #[] w fun e w' => e = .returned (.bool true) ∧ Below w.heap.size w w' := by
  go_enter Try.func27, Try.ntmps27
  go_wp2
  go_ret
  exact ⟨rfl, by repeat (first | exact Below.refl _ _ | (refine Below.alloc ?_ (by simp; try omega) _))⟩

def ofV (m0 y0 tm ty m y : Int) : Int := if m0 = m then (if y ≠ 0 ∧ y0 = y then 4 else 2) else if y ≠ 0 ∧ y0 = y then (if tm = 0 ∧ ty = 0 then 3 else 0) else if tm ≠ 0 ∧ tm = m ∧ ty = y then 1 else 0

set_option maxHeartbeats 400000 in
theorem of_any (made mine0 yours0 mytsn yourtsn peer local' pport mport rwnd out in' tm ty : Int) (r1 r2 : ByteArray) (m y : Int) (w : World) :
   Calls Try.prog 28 #[.agg #[.int .i64 made, .int .u32 mine0, .int .u32 yours0, .int .u32 mytsn, .int .u32 yourtsn, .int .u32 peer, .int .u32 local', .int .i64 pport, .int .i64 mport, .int .u32 rwnd, .int .i64 out, .int .i64 in', .int .u32 tm, .int .u32 ty, .string r1, .string r2], .int .u32 m, .int .u32 y] w fun e w' => e = .returned (.int .i64 (ofV mine0 yours0 tm ty m y)) ∧ Below w.heap.size w w' := by
  go_enter Try.func28, Try.ntmps28
  go_wp2
  all_goals (go_ret; refine ⟨ret_int ?_, by repeat (first | exact Below.refl _ _ | (refine Below.alloc ?_ (by simp; try omega) _))⟩; unfold ofV; simp_all)


end Go.Proofs.Ytoaocppdbgphgaa.clash
