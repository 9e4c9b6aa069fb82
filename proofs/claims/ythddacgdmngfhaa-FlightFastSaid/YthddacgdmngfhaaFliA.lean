/- Layer 21: nobody has chunks under way. -/
import Derived.Test.YthddacgdmngfhaaRows
import Derived.Test.YthddacgdmngfhaaKitD
import Derived.Outline
import Derived.OwnWalk
import Derived.BigQuiet
import Derived.LoopTactic
import Derived.Deep.CutBlock
import Derived.Deep.DeepCutAuto
import Derived.Deep.RegionWith
import Derived.BigRegion
import Derived.Lib.Hide
import Derived.Lib.BufferMore
namespace Go.Proofs.Ythddacgdmngfhaa.fli
open Go.Sort (grow)
open Go.ChangeShapes Go.WideShapes Go.ChangeAt Go.RowKit kit
set_option maxRecDepth 100000

/-- The cells of a chunk. -/
def ch (f t : Int) (d : ByteArray) : Array Value := #[.int .i64 0, .int .i64 f, .int .u32 t, .int .i64 0, .int .i64 0, .int .u32 0, .string d, .int .u32 0, .int .u32 0, .int .i64 0, .int .i64 0, .slice none 0 0, .slice none 0 0, .slice none 0 0, .slice none 0 0]
theorem szC (f t : Int) (d : ByteArray) : (Try.prog.info? 40).map (·.size) = some (ch f t d).size := by show _ = some 15; kernel_rfl
theorem len_nil (w : World) : Calls Try.prog 134 #[.pointer none] w fun e w' => e = .returned (.int .i64 0) ∧ w' = w := by
  go_enter Try.func134, Try.ntmps134
  go_wp2_with fail
  go_ret
  exact ⟨rfl, rfl⟩
theorem next_nil (w : World) : Calls Try.prog 127 #[.pointer none] w fun e w' => e = .returned (.int .u32 0) ∧ w' = w := by
  go_enter Try.func127, Try.ntmps127
  go_wp2_with fail
  go_ret
  exact ⟨rfl, rfl⟩
theorem find_nil (k : FuncId) (xs : Array Value) (ys : Array Value) (w : World) : Calls Try.prog 173 #[.pointer none, .func (.func k) xs ys] w fun e w' => e = .returned (.int .i64 (-1)) ∧ w' = w := by
  go_enter Try.func173, Try.ntmps173
  go_wp2_with fail
  go_ret
  exact ⟨rfl, rfl⟩
theorem again_nil (w : World) : Calls Try.prog 133 #[.pointer none] w fun e w' => e = .returned (.int .i64 (-1)) ∧ w' = w := by
  go_enter Try.func133, Try.ntmps133
  go_wp2_with fail
  refine (find_nil _ _ _ _).mono ?_
  rintro e w1 ⟨rfl, rfl⟩
  go_wp2_with fail
  go_ret
  exact ⟨rfl, rfl⟩
theorem peek_nil (w : World) : Calls Try.prog 77 #[.pointer none] w fun e w' => e = .returned (.tuple #[.int .i64 0, .bool false]) ∧ w' = w := by
  go_enter Try.func77, Try.ntmps77
  go_wp2_with fail
  refine (again_nil _).mono ?_
  rintro e w1 ⟨rfl, rfl⟩
  go_wp2_with fail
  go_ret2
  exact ⟨rfl, rfl⟩
theorem again2_nil (n m : Int) (w : World) : Calls Try.prog 78 #[.pointer none, .int .i64 n, .int .i64 m] w fun e w' => e = .returned (.tuple #[.agg (ch 0 0 ⟨#[]⟩), .bool false]) ∧ Below w.heap.size w w' := by
  have X := Blk.new w 40 (ch 0 0 ⟨#[]⟩)
  have bel := (Below.refl w.heap.size w).alloc (Nat.le_refl _) (.cells (ch 0 0 ⟨#[]⟩) 40)
  go_enter Try.func78, Try.ntmps78
  go_wp2_with fail
  refine (again_nil _).mono ?_
  rintro e w1 ⟨rfl, rfl⟩
  go_wp2_with fail
  have X' : Blk (w.alloc (.cells #[.int .i64 0, .int .i64 0, .int .u32 0, .int .i64 0, .int .i64 0, .int .u32 0, .string ⟨#[]⟩, .int .u32 0, .int .u32 0, .int .i64 0, .int .i64 0, .slice none 0 0, .slice none 0 0, .slice none 0 0, .slice none 0 0] 40)) w.heap.size 40 #[.int .i64 0, .int .i64 0, .int .u32 0, .int .i64 0, .int .i64 0, .int .u32 0, .string ⟨#[]⟩, .int .u32 0, .int .u32 0, .int .i64 0, .int .i64 0, .slice none 0 0, .slice none 0 0, .slice none 0 0, .slice none 0 0] := X
  exact bodyPost_ret (v := .tuple #[.agg (ch 0 0 ⟨#[]⟩), .bool false]) (by rw [results_cell_tmp_at rfl _ _ w.heap.size 0 #[.int .i64 0, .int .i64 0, .int .u32 0, .int .i64 0, .int .i64 0, .int .u32 0, .string ⟨#[]⟩, .int .u32 0, .int .u32 0, .int .i64 0, .int .i64 0, .slice none 0 0, .slice none 0 0, .slice none 0 0, .slice none 0 0] _ rfl (Cel.of_blk X') Try.underlying40 rfl (szC 0 0 ⟨#[]⟩)]; rfl) rfl ⟨rfl, bel⟩
theorem add_nil (cs : Array Value) (n m : Int) (w : World) : Calls Try.prog 75 #[.pointer none, .agg cs, .int .i64 n, .int .i64 m] w fun e w' => e = .returned (.agg (ch 0 0 ⟨#[]⟩)) ∧ Below w.heap.size w w' := by
  go_enter Try.func75, Try.ntmps75
  go_wp2_with fail
  have X : Blk ((w.alloc (.cells cs 40)).alloc (.cells (ch 0 0 ⟨#[]⟩) 40)) (w.heap.size + 1) 40 (ch 0 0 ⟨#[]⟩) := blk_new2 _ _ _ _
  exact bodyPost_ret (v := .agg (ch 0 0 ⟨#[]⟩)) (results_cell_at rfl _ _ (w.heap.size + 1) 0 (ch 0 0 ⟨#[]⟩) _ rfl (Cel.of_blk X) Try.underlying40 rfl (szC _ _ _)) rfl ⟨rfl, ((Below.refl _ _).alloc (Nat.le_refl _) _).alloc (by simp) _⟩
end Go.Proofs.Ythddacgdmngfhaa.fli
