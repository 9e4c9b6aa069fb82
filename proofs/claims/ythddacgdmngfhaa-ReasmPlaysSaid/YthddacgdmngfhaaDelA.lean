/- Layer 18: nobody has streams; the statement walked. -/
import Derived.Test.YthddacgdmngfhaaRows
import Derived.Test.YthddacgdmngfhaaKitD
import Derived.Test.YthddacgdmngfhaaKitM
import Derived.Outline
import Derived.OwnWalk
import Derived.BigQuiet
import Derived.LoopTactic
import Derived.Deep.CutBlock
import Derived.Deep.DeepCutAuto
import Derived.Deep.RegionWith
import Derived.BigRegion
import Derived.Deep.AppendLies
import Derived.Deep.RegionLaw
import Derived.Deep.RegionHeld3
import Derived.StillTailTactics
import Derived.Laws.ResultCell
namespace Go.Proofs.Ythddacgdmngfhaa.del
open Go.Sort (grow)
open Go.ChangeShapes Go.WideShapes Go.ChangeAt Go.RowKit kit
set_option maxRecDepth 100000

/-- A message's cells. -/
def ms (st ss : Int) (lo : Bool) (pr : Int) (D : ByteArray) : Array Value := #[.int .i64 st, .int .i64 ss, .bool lo, .int .u32 pr, .string D]
theorem szM : (Try.prog.info? 30).map (·.size) = some 5 := by kernel_rfl
theorem many_nil (w : World) : Calls Try.prog 57 #[.pointer none] w fun e w' => e = .returned (.int .i64 0) ∧ w' = w := by
  go_enter Try.func57, Try.ntmps57
  go_wp2
  go_ret
  exact ⟨rfl, rfl⟩
theorem ready_nil (w : World) : Calls Try.prog 55 #[.pointer none] w fun e w' => e = .returned (.int .i64 0) ∧ w' = w := by
  go_enter Try.func55, Try.ntmps55
  go_wp2
  go_ret
  exact ⟨rfl, rfl⟩
theorem grow_nil (n : Int) (w : World) : Calls Try.prog 52 #[.pointer none, .int .i64 n] w fun e w' => e = .returned (.tuple #[]) ∧ w' = w := by
  go_enter Try.func52, Try.ntmps52
  go_wp2_with fail
  refine bodyPost_ret (v := .tuple #[]) ?_ rfl ⟨rfl, rfl⟩
  simp [results]
theorem read_nil (w : World) : Calls Try.prog 51 #[.pointer none] w fun e w' => e = .returned (.tuple #[.agg (ms 0 0 false 0 ⟨#[]⟩), .bool false]) ∧ Below w.heap.size w w' := by
  go_enter Try.func51, Try.ntmps51
  go_wp2_with fail
  refine (ready_nil _).mono ?_
  rintro e w1 ⟨rfl, rfl⟩
  go_wp2
  have B := Blk.new w 30 (ms 0 0 false 0 ⟨#[]⟩)
  have bel := (Below.refl w.heap.size w).alloc (Nat.le_refl _) (.cells (ms 0 0 false 0 ⟨#[]⟩) 30)
  refine bodyPost_ret (v := .tuple #[.agg (ms 0 0 false 0 ⟨#[]⟩), .bool false]) ?_ rfl ⟨rfl, bel⟩
  rw [results_cell_tmp rfl]
  have h := run_loadVar_row (w.alloc (.cells (ms 0 0 false 0 ⟨#[]⟩) 30)) w.heap.size 30 30 _ (0, 0) _ B Try.underlying30 rfl (by kernel_rfl)
  have h2 : w.alloc (.cells (ms 0 0 false 0 ⟨#[]⟩) 30) = w.alloc (.cells #[.int .i64 0, .int .i64 0, .bool false, .int .u32 0, .string ⟨#[]⟩] 30) := rfl
  rw [h2] at h
  simp [asAddr, h]
theorem read_nil' (w : World) : Calls Try.prog 51 #[.pointer none] w fun e w' => e = .returned (.tuple #[.agg #[.int .i64 0, .int .i64 0, .bool false, .int .u32 0, .string ⟨#[]⟩], .bool false]) ∧ Below w.heap.size w w' := read_nil w
theorem put_nil (st ss pr : Int) (lo : Bool) (D : ByteArray) (w : World) : Calls Try.prog 54 #[.pointer none, .agg (ms st ss lo pr D)] w fun e w' => e = .returned (.bool false) ∧ Below w.heap.size w w' := by
  have M0 := Blk.new w 30 (ms st ss lo pr D)
  have bel := (Below.refl w.heap.size w).alloc (Nat.le_refl _) (.cells (ms st ss lo pr D) 30)
  go_enter Try.func54, Try.ntmps54
  go_wp2_with fail
  generalize w.alloc (.cells (ms st ss lo pr D) 30) = w1 at *
  have c0 : w1.cell? ⟨w.heap.size, 0, none⟩ = some (.int .i64 st) := M0.cell 0
  clear M0
  rcases (by omega : st < 0 ∨ (¬ st < 0 ∧ 0 ≤ st)) with q | ⟨q, q2⟩
  · have hd : decide (st < 0) = true := decide_eq_true q
    go_quiet ((fail))
    go_wp2_with fail
    go_ret
    exact ⟨rfl, ⟨bel.os, bel.tape, bel.output, bel.size, bel.block⟩⟩
  · have hd : decide (st < 0) = false := decide_eq_false q
    have hd2 : decide (0 ≤ st) = true := decide_eq_true q2
    go_quiet ((exact Calls.quiet_of_same (many_nil _)))
    go_wp2_with fail
    go_ret
    exact ⟨rfl, ⟨bel.os, bel.tape, bel.output, bel.size, bel.block⟩⟩
theorem zero_eql (w : World) : (binOp .eql 30 (.agg #[.int .i64 0, .int .i64 0, .bool false, .int .u32 0, .string ⟨#[]⟩]) (.agg #[.int .i64 0, .int .i64 0, .bool false, .int .u32 0, .string ⟨#[]⟩])).run Try.prog w = .ok (.bool true) w := by kernel_rfl
end Go.Proofs.Ythddacgdmngfhaa.del
