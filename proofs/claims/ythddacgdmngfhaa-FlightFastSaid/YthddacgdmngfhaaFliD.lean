/- Layer 21: the first chunk under way. -/
import Derived.Test.YthddacgdmngfhaaFliC
namespace Go.Proofs.Ythddacgdmngfhaa.fli
open Go.Sort (grow)
open Go.ChangeShapes Go.WideShapes Go.ChangeAt Go.RowKit kit
set_option maxRecDepth 100000

/-- The cells of a chunk under way. -/
def se : Array Value := #[.int .i64 0, .int .i64 0, .int .u32 5, .int .i64 0, .int .i64 0, .int .u32 0, .string ⟨#[120]⟩, .int .u32 0, .int .u32 0, .int .i64 0, .int .i64 0, .slice none 0 0, .slice none 0 0, .slice none 0 0, .slice none 0 0, .int .i64 0, .int .i64 3, .int .i64 1, .int .i64 0, .bool false, .bool false, .bool false]
theorem se_one : ∀ u ∈ se.toList, u.oneCell' = true := fun x hx => (Array.all_eq_true_iff_forall_mem.1 (show se.all (·.oneCell') = true by kernel_rfl)) x (by simpa using hx)
theorem infoS : (Try.prog.info? 231).map (fun i => (i.zero, i.size, i.bytes)) = some (some (.agg #[.int .i64 0, .int .i64 0, .int .u32 0, .int .i64 0, .int .i64 0, .int .u32 0, .string ByteArray.empty, .int .u32 0, .int .u32 0, .int .i64 0, .int .i64 0, .slice none 0 0, .slice none 0 0, .slice none 0 0, .slice none 0 0, .int .i64 0, .int .i64 0, .int .i64 0, .int .i64 0, .bool false, .bool false, .bool false]), 22, 224) := by kernel_rfl
theorem new_fl (w : World) : Calls Try.prog 74 #[.int .u32 4] w fun e w' => e = .returned (.pointer (some ⟨w.heap.size, 0, none⟩)) ∧ w' = w.alloc (.cells #[.int .u32 4, .slice none 0 0] 229) := by
  go_enter Try.func74, Try.ntmps74
  go_wp2_with fail
  go_ret
  exact ⟨rfl, rfl⟩
theorem next_one (g : Nat) (w : World) (B : Blk w g 229 #[.int .u32 4, .slice none 0 0]) : Calls Try.prog 127 #[.pointer (some ⟨g, 0, none⟩)] w fun e w' => e = .returned (.int .u32 5) ∧ Below w.heap.size w w' := by
  have c0 : w.cell? ⟨g, 0, none⟩ = some (.int .u32 4) := B.cell 0
  have c1 : w.cell? ⟨g, 1, none⟩ = some (.slice none 0 0) := B.cell 1
  go_enter Try.func127, Try.ntmps127
  go_wp2_with fail
  go_region
  all_goals
    go_wp2_with fail
    go_ret
    exact ⟨rfl, (Below.refl _ _).drew⟩
end Go.Proofs.Ythddacgdmngfhaa.fli
