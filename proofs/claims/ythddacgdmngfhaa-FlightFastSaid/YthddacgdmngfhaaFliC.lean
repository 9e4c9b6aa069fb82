/- Layer 21: a chunk copied; the first chunk under way. -/
import Derived.Test.YthddacgdmngfhaaFliB
import Derived.Deep.AppendLies
import Derived.Test.YthddacgdmngfhaaKitC
import Derived.Deep.RegionLaw
namespace Go.Proofs.Ythddacgdmngfhaa.fli
open Go.Sort (grow)
open Go.ChangeShapes Go.WideShapes Go.ChangeAt Go.RowKit kit
set_option maxRecDepth 100000

theorem cl11 (w : World) : Calls Try.prog 157 #[.slice none 0 0] w fun e w' => e = .returned (.slice none 0 0) ∧ w' = w := by
  have hq : ∀ w : World, (binOp .eql 35 (.slice none 0 0) (.slice none 0 0)).run Try.prog w = .ok (.bool true) w := fun w => by kernel_rfl
  go_enter Try.func157, Try.ntmps157
  go_wp2_with fail
  go_ret
  exact ⟨rfl, rfl⟩
theorem cl12 (w : World) : Calls Try.prog 158 #[.slice none 0 0] w fun e w' => e = .returned (.slice none 0 0) ∧ w' = w := by
  have hq : ∀ w : World, (binOp .eql 36 (.slice none 0 0) (.slice none 0 0)).run Try.prog w = .ok (.bool true) w := fun w => by kernel_rfl
  go_enter Try.func158, Try.ntmps158
  go_wp2_with fail
  go_ret
  exact ⟨rfl, rfl⟩
theorem cl13 (w : World) : Calls Try.prog 159 #[.slice none 0 0] w fun e w' => e = .returned (.slice none 0 0) ∧ w' = w := by
  have hq : ∀ w : World, (binOp .eql 37 (.slice none 0 0) (.slice none 0 0)).run Try.prog w = .ok (.bool true) w := fun w => by kernel_rfl
  go_enter Try.func159, Try.ntmps159
  go_wp2_with fail
  go_ret
  exact ⟨rfl, rfl⟩
theorem cl14 (w : World) : Calls Try.prog 160 #[.slice none 0 0] w fun e w' => e = .returned (.slice none 0 0) ∧ w' = w := by
  have hq : ∀ w : World, (binOp .eql 38 (.slice none 0 0) (.slice none 0 0)).run Try.prog w = .ok (.bool true) w := fun w => by kernel_rfl
  go_enter Try.func160, Try.ntmps160
  go_wp2_with fail
  go_ret
  exact ⟨rfl, rfl⟩
theorem ch_one (f t : Int) (d : ByteArray) : (ch f t d).all (·.oneCell') = true := by kernel_rfl
set_option maxHeartbeats 2000000 in
theorem clone_any (f t : Int) (d : ByteArray) (w : World) : Calls Try.prog 105 #[.agg (ch f t d)] w fun e w' => e = .returned (.agg (ch f t d)) ∧ Below w.heap.size w w' := by
  have X1 := (Blk.new w 40 (ch f t d)).alloc (.cells (ch 0 0 ⟨#[]⟩) 40)
  have R1 := blk_new2 w (.cells (ch f t d) 40) 40 (ch 0 0 ⟨#[]⟩)
  have bel1 := ((Below.refl w.heap.size w).alloc (Nat.le_refl _) (.cells (ch f t d) 40)).alloc (by simp) (.cells (ch 0 0 ⟨#[]⟩) 40)
  go_enter Try.func105, Try.ntmps105
  go_upto_region 1 with (fail)
  rw [show (w.alloc (.cells (ch f t d) 40)).alloc (.cells #[.int .i64 0, .int .i64 0, .int .u32 0, .int .i64 0, .int .i64 0, .int .u32 0, .string ⟨#[]⟩, .int .u32 0, .int .u32 0, .int .i64 0, .int .i64 0, .slice none 0 0, .slice none 0 0, .slice none 0 0, .slice none 0 0] 40) = (w.alloc (.cells (ch f t d) 40)).alloc (.cells (ch 0 0 ⟨#[]⟩) 40) from rfl]
  generalize (w.alloc (.cells (ch f t d) 40)).alloc (.cells (ch 0 0 ⟨#[]⟩) 40) = w1 at *
  have c11 : w1.cell? ⟨w.heap.size, 11, none⟩ = some (.slice none 0 0) := X1.cell 11
  have f11 : w1.frozen? ⟨w.heap.size, 11, none⟩ = false := X1.frozen 11
  go_wp2_with fail
  refine (cl11 _).mono ?_
  rintro e v1 ⟨rfl, hv⟩
  subst hv
  have X2 : Blk (v1.setCell ⟨w.heap.size, 11, none⟩ (.slice none 0 0)) w.heap.size 40 (ch f t d) := X1.set_ 11 (.slice none 0 0)
  have R2 := R1.far (p := ⟨w.heap.size, 11, none⟩) (show w.heap.size + 1 ≠ w.heap.size by omega) (.slice none 0 0)
  have bel2 := bel1.setCell (p := ⟨w.heap.size, 11, none⟩) (Nat.le_refl _) (.slice none 0 0)
  go_upto_region 2 with (fail)
  clear c11 f11 X1 R1 bel1
  generalize v1.setCell ⟨w.heap.size, 11, none⟩ (.slice none 0 0) = w2 at *
  have c12 : w2.cell? ⟨w.heap.size, 12, none⟩ = some (.slice none 0 0) := X2.cell 12
  have f12 : w2.frozen? ⟨w.heap.size, 12, none⟩ = false := X2.frozen 12
  go_wp2_with fail
  refine (cl12 _).mono ?_
  rintro e v2 ⟨rfl, hv⟩
  subst hv
  have X3 : Blk (v2.setCell ⟨w.heap.size, 12, none⟩ (.slice none 0 0)) w.heap.size 40 (ch f t d) := X2.set_ 12 (.slice none 0 0)
  have R3 := R2.far (p := ⟨w.heap.size, 12, none⟩) (show w.heap.size + 1 ≠ w.heap.size by omega) (.slice none 0 0)
  have bel3 := bel2.setCell (p := ⟨w.heap.size, 12, none⟩) (Nat.le_refl _) (.slice none 0 0)
  go_upto_region 3 with (fail)
  clear c12 f12 X2 R2 bel2
  generalize v2.setCell ⟨w.heap.size, 12, none⟩ (.slice none 0 0) = w3 at *
  have c13 : w3.cell? ⟨w.heap.size, 13, none⟩ = some (.slice none 0 0) := X3.cell 13
  have f13 : w3.frozen? ⟨w.heap.size, 13, none⟩ = false := X3.frozen 13
  go_wp2_with fail
  refine (cl13 _).mono ?_
  rintro e v3 ⟨rfl, hv⟩
  subst hv
  have X4 : Blk (v3.setCell ⟨w.heap.size, 13, none⟩ (.slice none 0 0)) w.heap.size 40 (ch f t d) := X3.set_ 13 (.slice none 0 0)
  have R4 := R3.far (p := ⟨w.heap.size, 13, none⟩) (show w.heap.size + 1 ≠ w.heap.size by omega) (.slice none 0 0)
  have bel4 := bel3.setCell (p := ⟨w.heap.size, 13, none⟩) (Nat.le_refl _) (.slice none 0 0)
  go_upto_region 4 with (fail)
  clear c13 f13 X3 R3 bel3
  generalize v3.setCell ⟨w.heap.size, 13, none⟩ (.slice none 0 0) = w4 at *
  have c14 : w4.cell? ⟨w.heap.size, 14, none⟩ = some (.slice none 0 0) := X4.cell 14
  have f14 : w4.frozen? ⟨w.heap.size, 14, none⟩ = false := X4.frozen 14
  go_wp2_with fail
  refine (cl14 _).mono ?_
  rintro e v4 ⟨rfl, hv⟩
  subst hv
  have X5 : Blk (v4.setCell ⟨w.heap.size, 14, none⟩ (.slice none 0 0)) w.heap.size 40 (ch f t d) := X4.set_ 14 (.slice none 0 0)
  have R5 := R4.far (p := ⟨w.heap.size, 14, none⟩) (show w.heap.size + 1 ≠ w.heap.size by omega) (.slice none 0 0)
  have bel5 := bel4.setCell (p := ⟨w.heap.size, 14, none⟩) (Nat.le_refl _) (.slice none 0 0)
  go_upto_region 5 with (fail)
  clear c14 f14 X4 R4 bel4
  generalize v4.setCell ⟨w.heap.size, 14, none⟩ (.slice none 0 0) = w5 at *
  have C6 := (Cel.of_blk R5).setCells_same (ch f t d).toList rfl
  have bel6 := below_setCells bel5 (show w.heap.size ≤ w.heap.size + 1 by omega) 0 (ch f t d).toList
  go_wp2_with (first | (refine wpList_load_at rfl 40 _ rfl w.heap.size 0 rfl (ch f t d) _ (Cel.of_blk X5) Try.underlying40 rfl (szC _ _ _) ?_) | (refine wpList_store_at rfl 40 _ _ rfl (w.heap.size + 1) 0 (ch f t d) rfl rfl (ch 0 0 ⟨#[]⟩) (Cel.of_blk R5) (szC _ _ _) rfl (ch_one _ _ _) ?_))
  exact bodyPost_ret (v := .agg (ch f t d)) (results_cell_at rfl _ _ (w.heap.size + 1) 0 (ch f t d) _ rfl (C6.congr rfl) Try.underlying40 rfl (szC _ _ _)) rfl ⟨rfl, bel6⟩
end Go.Proofs.Ythddacgdmngfhaa.fli
