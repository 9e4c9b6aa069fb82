/- Layer 37: what a message says. -/
import Derived.Test.YthjhiogbnacmdaaMoF
import Derived.Test.YthjhiogbnacmdaaMoG
import Derived.Test.YthjhiogbnacmdaaMoD
namespace Go.Proofs.Ythjhiogbnacmdaa.mo
open Go.Sort (grow)
open Go.ChangeShapes Go.WideShapes Go.ChangeAt Go.RowKit kit cut
set_option maxRecDepth 100000

/-- What a message says, as the program's key. -/
def sd (x : Ms) : Array Value := #[.int .i64 x.s, .int .u32 0, .string x.d]
theorem said_any (x : Ms) (W : World) : Calls Try.prog 42 #[.agg (me x)] W fun e w' => e = .returned (.agg (sd x)) ∧ Below W.heap.size W w' := by
  have X1 := (Blk.new W 71 (me x)).alloc (.cells #[.int .i64 0, .int .u32 0, .string ⟨#[]⟩] 97)
  have S1 := blk_new2 W (.cells (me x) 71) 97 #[.int .i64 0, .int .u32 0, .string ⟨#[]⟩]
  have bel := ((Below.refl W.heap.size W).alloc (Nat.le_refl _) (.cells (me x) 71)).alloc (by simp) (.cells #[.int .i64 0, .int .u32 0, .string ⟨#[]⟩] 97)
  unfold me at X1 S1 bel ⊢
  go_enter Try.func42, Try.ntmps42
  go_upto_region 1 with fail
  obtain ⟨w1, hw1⟩ : ∃ w1, (W.alloc (.cells #[.int .i64 x.s, .int .i64 0, .bool x.lo, .int .u32 0, .string x.d] 71)).alloc (.cells #[.int .i64 0, .int .u32 0, .string ⟨#[]⟩] 97) = w1 := ⟨_, rfl⟩
  rw [hw1] at X1 S1 bel
  try rw [hw1]
  clear hw1
  obtain ⟨xb, hxb⟩ : ∃ xb, W.heap.size = xb := ⟨_, rfl⟩
  rw [hxb] at X1 S1
  try rw [hxb]
  have x0 : w1.cell? ⟨xb, 0, none⟩ = some (.int .i64 x.s) := X1.cell 0
  have x3 : w1.cell? ⟨xb, 3, none⟩ = some (.int .u32 0) := X1.cell 3
  have x4 : w1.cell? ⟨xb, 4, none⟩ = some (.string x.d) := X1.cell 4
  have CS := Cel.of_blk S1
  have szs : (Try.prog.info? 97).map (·.size) = some (#[.int .i64 x.s, .int .u32 0, .string x.d] : Array Value).size := by show _ = some 3; kernel_rfl
  have hone : (#[.int .i64 x.s, .int .u32 0, .string x.d] : Array Value).all (·.oneCell') = true := by
    rw [Array.all_eq_true']
    intro u hu
    simp only [List.mem_toArray, List.mem_cons, List.not_mem_nil, or_false] at hu
    rcases hu with rfl | rfl | rfl <;> rfl
  go_wp2_with (refine wpList_store_at rfl 97 _ _ rfl (xb + 1) 0 #[.int .i64 x.s, .int .u32 0, .string x.d] rfl rfl _ CS szs rfl hone ?_)
  have CZ := CS.setCells_same [.int .i64 x.s, .int .u32 0, .string x.d] rfl
  have belZ : Below W.heap.size W (w1.setCells (xb + 1) 0 [.int .i64 x.s, .int .u32 0, .string x.d]) := below_setCells bel (by omega) 0 _
  exact bodyPost_ret (v := .agg #[.int .i64 x.s, .int .u32 0, .string x.d]) (results_cell_at rfl _ _ (xb + 1) 0 #[.int .i64 x.s, .int .u32 0, .string x.d] _ rfl (CZ.congr rfl) Try.underlying97 rfl szs) rfl ⟨rfl, by first | exact belZ | (rw [hxb] at belZ; exact belZ)⟩
end Go.Proofs.Ythjhiogbnacmdaa.mo
