/- Layer 20: a chunk is the same as itself. -/
import Derived.Test.YthddacgdmngfhaaSqD
namespace Go.Proofs.Ythddacgdmngfhaa.fra
open Go.Sort (grow)
open Go.ChangeShapes Go.WideShapes Go.ChangeAt Go.RowKit kit
set_option maxRecDepth 100000

set_option maxHeartbeats 4000000 in
theorem same_ck (f st ss pr : Int) (d : ByteArray) (w : World) : Calls Try.prog 18 #[.agg (lk f st ss pr d), .agg (lk f st ss pr d)] w fun e w' => e = .returned (.bool true) ∧ Below w.heap.size w w' := by
  have A1 := Blk.new w 40 (lk f st ss pr d)
  have B2 := Blk.new (w.alloc (.cells (lk f st ss pr d) 40)) 40 (lk f st ss pr d)
  have A2 := A1.alloc (.cells (lk f st ss pr d) 40)
  have bel2 := ((Below.refl w.heap.size w).alloc (Nat.le_refl _) (.cells (lk f st ss pr d) 40)).alloc (by simp) (.cells (lk f st ss pr d) 40)
  have hs : (w.alloc (.cells (lk f st ss pr d) 40)).heap.size = w.heap.size + 1 := by simp
  rw [hs] at B2
  go_enter Try.func18, Try.ntmps18
  go_upto_region 1 with fail
  generalize (w.alloc (.cells (lk f st ss pr d) 40)).alloc (.cells (lk f st ss pr d) 40) = w2 at *
  obtain ⟨g, hg⟩ : ∃ g, w.heap.size = g := ⟨_, rfl⟩
  rw [hg] at A2 B2 ⊢
  have a0 : w2.cell? ⟨g, 0, none⟩ = some (.int .i64 0) := A2.cell 0
  have a1 : w2.cell? ⟨g, 1, none⟩ = some (.int .i64 f) := A2.cell 1
  have a2 : w2.cell? ⟨g, 2, none⟩ = some (.int .u32 0) := A2.cell 2
  have a3 : w2.cell? ⟨g, 3, none⟩ = some (.int .i64 st) := A2.cell 3
  have a4 : w2.cell? ⟨g, 4, none⟩ = some (.int .i64 ss) := A2.cell 4
  have a5 : w2.cell? ⟨g, 5, none⟩ = some (.int .u32 pr) := A2.cell 5
  have a6 : w2.cell? ⟨g, 6, none⟩ = some (.string d) := A2.cell 6
  have a7 : w2.cell? ⟨g, 7, none⟩ = some (.int .u32 0) := A2.cell 7
  have a8 : w2.cell? ⟨g, 8, none⟩ = some (.int .u32 0) := A2.cell 8
  have a9 : w2.cell? ⟨g, 9, none⟩ = some (.int .i64 0) := A2.cell 9
  have a10 : w2.cell? ⟨g, 10, none⟩ = some (.int .i64 0) := A2.cell 10
  have a11 : w2.cell? ⟨g, 11, none⟩ = some (.slice none 0 0) := A2.cell 11
  have a12 : w2.cell? ⟨g, 12, none⟩ = some (.slice none 0 0) := A2.cell 12
  have a13 : w2.cell? ⟨g, 13, none⟩ = some (.slice none 0 0) := A2.cell 13
  have a14 : w2.cell? ⟨g, 14, none⟩ = some (.slice none 0 0) := A2.cell 14
  have b0 : w2.cell? ⟨g + 1, 0, none⟩ = some (.int .i64 0) := B2.cell 0
  have b1 : w2.cell? ⟨g + 1, 1, none⟩ = some (.int .i64 f) := B2.cell 1
  have b2 : w2.cell? ⟨g + 1, 2, none⟩ = some (.int .u32 0) := B2.cell 2
  have b3 : w2.cell? ⟨g + 1, 3, none⟩ = some (.int .i64 st) := B2.cell 3
  have b4 : w2.cell? ⟨g + 1, 4, none⟩ = some (.int .i64 ss) := B2.cell 4
  have b5 : w2.cell? ⟨g + 1, 5, none⟩ = some (.int .u32 pr) := B2.cell 5
  have b6 : w2.cell? ⟨g + 1, 6, none⟩ = some (.string d) := B2.cell 6
  have b7 : w2.cell? ⟨g + 1, 7, none⟩ = some (.int .u32 0) := B2.cell 7
  have b8 : w2.cell? ⟨g + 1, 8, none⟩ = some (.int .u32 0) := B2.cell 8
  have b9 : w2.cell? ⟨g + 1, 9, none⟩ = some (.int .i64 0) := B2.cell 9
  have b10 : w2.cell? ⟨g + 1, 10, none⟩ = some (.int .i64 0) := B2.cell 10
  have b11 : w2.cell? ⟨g + 1, 11, none⟩ = some (.slice none 0 0) := B2.cell 11
  have b12 : w2.cell? ⟨g + 1, 12, none⟩ = some (.slice none 0 0) := B2.cell 12
  have b13 : w2.cell? ⟨g + 1, 13, none⟩ = some (.slice none 0 0) := B2.cell 13
  have b14 : w2.cell? ⟨g + 1, 14, none⟩ = some (.slice none 0 0) := B2.cell 14
  go_wp2_with fail
  refine wp_loop_rounds 1 ?_
  rw [rounds_succ]
  go_wp2_with fail
  refine wp_loop_rounds 1 ?_
  rw [rounds_succ]
  go_wp2_with fail
  refine wp_loop_rounds 1 ?_
  rw [rounds_succ]
  go_wp2_with fail
  refine wp_loop_rounds 1 ?_
  rw [rounds_succ]
  go_wp2_with fail
  go_ret
  exact ⟨rfl, by first | exact bel2 | (rw [hg]; exact bel2) | (rw [← hg]; exact bel2)⟩
end Go.Proofs.Ythddacgdmngfhaa.fra
