/- Layer 17: nobody has parts; the statement walked. -/
import Derived.Test.YthddacgdmngfhaaDelA
namespace Go.Proofs.Ythddacgdmngfhaa.rea
open Go.Sort (grow)
open Go.ChangeShapes Go.WideShapes Go.ChangeAt Go.RowKit kit
open del (ms szM zero_eql)
set_option maxRecDepth 100000

theorem len_nil (w : World) : Calls Try.prog 62 #[.pointer none] w fun e w' => e = .returned (.int .i64 0) ∧ w' = w := by
  go_enter Try.func62, Try.ntmps62
  go_wp2
  go_ret
  exact ⟨rfl, rfl⟩
theorem bytes_nil (w : World) : Calls Try.prog 63 #[.pointer none] w fun e w' => e = .returned (.int .i64 0) ∧ w' = w := by
  go_enter Try.func63, Try.ntmps63
  go_wp2
  go_ret
  exact ⟨rfl, rfl⟩
theorem add_nil (cs : Array Value) (w : World) : Calls Try.prog 60 #[.pointer none, .agg cs] w fun e w' => e = .returned (.tuple #[.agg (ms 0 0 false 0 ⟨#[]⟩), .bool false]) ∧ Below w.heap.size w w' := by
  go_enter Try.func60, Try.ntmps60
  go_wp2
  have B : Blk ((w.alloc (.cells cs 40)).alloc (.cells (ms 0 0 false 0 ⟨#[]⟩) 30)) (w.heap.size + 1) 30 (ms 0 0 false 0 ⟨#[]⟩) := blk_new2 _ _ _ _
  have bel := ((Below.refl w.heap.size w).alloc (Nat.le_refl _) (.cells cs 40)).alloc (by simp) (.cells (ms 0 0 false 0 ⟨#[]⟩) 30)
  refine bodyPost_ret (v := .tuple #[.agg (ms 0 0 false 0 ⟨#[]⟩), .bool false]) ?_ rfl ⟨rfl, bel⟩
  rw [results_cell_tmp rfl]
  have h := run_loadVar_row ((w.alloc (.cells cs 40)).alloc (.cells (ms 0 0 false 0 ⟨#[]⟩) 30)) (w.heap.size + 1) 30 30 _ (0, 0) _ B Try.underlying30 rfl (by kernel_rfl)
  have h2 : (w.alloc (.cells cs 40)).alloc (.cells (ms 0 0 false 0 ⟨#[]⟩) 30) = (w.alloc (.cells cs 40)).alloc (.cells #[.int .i64 0, .int .i64 0, .bool false, .int .u32 0, .string ⟨#[]⟩] 30) := rfl
  rw [h2] at h
  simp [asAddr, h]
theorem add_nil' (cs : Array Value) (w : World) : Calls Try.prog 60 #[.pointer none, .agg cs] w fun e w' => e = .returned (.tuple #[.agg #[.int .i64 0, .int .i64 0, .bool false, .int .u32 0, .string ⟨#[]⟩], .bool false]) ∧ Below w.heap.size w w' := add_nil cs w
end Go.Proofs.Ythddacgdmngfhaa.rea
