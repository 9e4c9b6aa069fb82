/- Layer 17: chunks copied; whether parts are of one message. -/
import Derived.Test.YthddacgdmngfhaaReaA
import Derived.Lib.BufferMore
namespace Go.Proofs.Ythddacgdmngfhaa.rea
open Go.Sort (grow)
open Go.ChangeShapes Go.WideShapes Go.ChangeAt Go.RowKit kit
open del (ms szM zero_eql)
set_option maxRecDepth 100000

/-- A part's cells: flags, number, bytes. -/
def ckr (f t : Int) (d : ByteArray) : Array Value := #[.int .i64 0, .int .i64 f, .int .u32 t, .int .i64 0, .int .i64 0, .int .u32 0, .string d, .int .u32 0, .int .u32 0, .int .i64 0, .int .i64 0, .slice none 0 0, .slice none 0 0, .slice none 0 0, .slice none 0 0]
theorem szC (f t : Int) (d : ByteArray) : (Try.prog.info? 40).map (·.size) = some (ckr f t d).size := by show _ = some 15; kernel_rfl
theorem oneC (f t : Int) (d : ByteArray) : (ckr f t d).all (·.oneCell') = true := by kernel_rfl
def zck : Array Value := ckr 0 0 ⟨#[]⟩
theorem clone_param (w : World) : Calls Try.prog 157 #[.slice none 0 0] w fun e w' => e = .returned (.slice none 0 0) ∧ w' = w := by
  go_enter Try.func157, Try.ntmps157
  have hq : ∀ w, (binOp .eql 35 (.slice none 0 0) (.slice none 0 0)).run Try.prog w = .ok (.bool true) w := fun w => Lib.run_eql_slice_nil_nil w _ _ Try.underlying35
  go_wp2_with fail
  go_ret
  exact ⟨rfl, rfl⟩
theorem clone_cause (w : World) : Calls Try.prog 158 #[.slice none 0 0] w fun e w' => e = .returned (.slice none 0 0) ∧ w' = w := by
  go_enter Try.func158, Try.ntmps158
  have hq : ∀ w, (binOp .eql 36 (.slice none 0 0) (.slice none 0 0)).run Try.prog w = .ok (.bool true) w := fun w => Lib.run_eql_slice_nil_nil w _ _ Try.underlying36
  go_wp2_with fail
  go_ret
  exact ⟨rfl, rfl⟩
theorem clone_gap (w : World) : Calls Try.prog 159 #[.slice none 0 0] w fun e w' => e = .returned (.slice none 0 0) ∧ w' = w := by
  go_enter Try.func159, Try.ntmps159
  have hq : ∀ w, (binOp .eql 37 (.slice none 0 0) (.slice none 0 0)).run Try.prog w = .ok (.bool true) w := fun w => Lib.run_eql_slice_nil_nil w _ _ Try.underlying37
  go_wp2_with fail
  go_ret
  exact ⟨rfl, rfl⟩
theorem clone_dup (w : World) : Calls Try.prog 160 #[.slice none 0 0] w fun e w' => e = .returned (.slice none 0 0) ∧ w' = w := by
  go_enter Try.func160, Try.ntmps160
  have hq : ∀ w, (binOp .eql 38 (.slice none 0 0) (.slice none 0 0)).run Try.prog w = .ok (.bool true) w := fun w => Lib.run_eql_slice_nil_nil w _ _ Try.underlying38
  go_wp2_with fail
  go_ret
  exact ⟨rfl, rfl⟩
set_option maxHeartbeats 2000000 in
theorem clone_any (f t : Int) (d : ByteArray) (w : World) : Calls Try.prog 105 #[.agg (ckr f t d)] w fun e w' => e = .returned (.agg (ckr f t d)) ∧ Below w.heap.size w w' := by
  have N0 : Blk ((w.alloc (.cells (ckr f t d) 40)).alloc (.cells zck 40)) w.heap.size 40 (ckr f t d) := (Blk.new w _ _).alloc _
  have Z0 : Blk ((w.alloc (.cells (ckr f t d) 40)).alloc (.cells zck 40)) (w.heap.size + 1) 40 zck := blk_new2 _ _ _ _
  have bel0 := ((Below.refl w.heap.size w).alloc (Nat.le_refl _) (.cells (ckr f t d) 40)).alloc (by simp) (.cells zck 40)
  go_enter Try.func105, Try.ntmps105
  go_upto_region 1 with (fail)
  generalize hw0 : (w.alloc (.cells (ckr f t d) 40)).alloc (.cells zck 40) = w0 at *
  have hw0' : (w.alloc (.cells (ckr f t d) 40)).alloc (.cells #[.int .i64 0, .int .i64 0, .int .u32 0, .int .i64 0, .int .i64 0, .int .u32 0, .string ⟨#[]⟩, .int .u32 0, .int .u32 0, .int .i64 0, .int .i64 0, .slice none 0 0, .slice none 0 0, .slice none 0 0, .slice none 0 0] 40) = w0 := hw0
  rw [hw0']
  clear hw0 hw0'
  have c0 : w0.cell? ⟨w.heap.size, 11, none⟩ = some (.slice none 0 0) := N0.cell 11
  have f0 : w0.frozen? ⟨w.heap.size, 11, none⟩ = false := N0.frozen 11
  go_wp2_with fail
  refine (clone_param _).mono ?_
  rintro e w0 ⟨rfl, rfl⟩
  go_upto_region 2 with (fail)
  have N1 : Blk (w0.setCell ⟨w.heap.size, 11, none⟩ (.slice none 0 0)) w.heap.size 40 (ckr f t d) := N0.set_ 11 _
  have Z1 := Z0.far (p := ⟨w.heap.size, 11, none⟩) (by show w.heap.size + 1 ≠ w.heap.size; omega) (.slice none 0 0)
  have bel1 := bel0.setCell (p := ⟨w.heap.size, 11, none⟩) (Nat.le_refl _) (.slice none 0 0)
  clear N0 Z0 bel0 c0 f0
  generalize w0.setCell ⟨w.heap.size, 11, none⟩ (.slice none 0 0) = y0 at *
  have c1 : y0.cell? ⟨w.heap.size, 12, none⟩ = some (.slice none 0 0) := N1.cell 12
  have f1 : y0.frozen? ⟨w.heap.size, 12, none⟩ = false := N1.frozen 12
  go_wp2_with fail
  refine (clone_cause _).mono ?_
  rintro e y0 ⟨rfl, rfl⟩
  go_upto_region 3 with (fail)
  have N2 : Blk (y0.setCell ⟨w.heap.size, 12, none⟩ (.slice none 0 0)) w.heap.size 40 (ckr f t d) := N1.set_ 12 _
  have Z2 := Z1.far (p := ⟨w.heap.size, 12, none⟩) (by show w.heap.size + 1 ≠ w.heap.size; omega) (.slice none 0 0)
  have bel2 := bel1.setCell (p := ⟨w.heap.size, 12, none⟩) (Nat.le_refl _) (.slice none 0 0)
  clear N1 Z1 bel1 c1 f1
  generalize y0.setCell ⟨w.heap.size, 12, none⟩ (.slice none 0 0) = y1 at *
  have c2 : y1.cell? ⟨w.heap.size, 13, none⟩ = some (.slice none 0 0) := N2.cell 13
  have f2 : y1.frozen? ⟨w.heap.size, 13, none⟩ = false := N2.frozen 13
  go_wp2_with fail
  refine (clone_gap _).mono ?_
  rintro e y1 ⟨rfl, rfl⟩
  go_upto_region 4 with (fail)
  have N3 : Blk (y1.setCell ⟨w.heap.size, 13, none⟩ (.slice none 0 0)) w.heap.size 40 (ckr f t d) := N2.set_ 13 _
  have Z3 := Z2.far (p := ⟨w.heap.size, 13, none⟩) (by show w.heap.size + 1 ≠ w.heap.size; omega) (.slice none 0 0)
  have bel3 := bel2.setCell (p := ⟨w.heap.size, 13, none⟩) (Nat.le_refl _) (.slice none 0 0)
  clear N2 Z2 bel2 c2 f2
  generalize y1.setCell ⟨w.heap.size, 13, none⟩ (.slice none 0 0) = y2 at *
  have c3 : y2.cell? ⟨w.heap.size, 14, none⟩ = some (.slice none 0 0) := N3.cell 14
  have f3 : y2.frozen? ⟨w.heap.size, 14, none⟩ = false := N3.frozen 14
  go_wp2_with fail
  refine (clone_dup _).mono ?_
  rintro e y2 ⟨rfl, rfl⟩
  go_upto_region 5 with (fail)
  have N4 : Blk (y2.setCell ⟨w.heap.size, 14, none⟩ (.slice none 0 0)) w.heap.size 40 (ckr f t d) := N3.set_ 14 _
  have Z4 := Z3.far (p := ⟨w.heap.size, 14, none⟩) (by show w.heap.size + 1 ≠ w.heap.size; omega) (.slice none 0 0)
  have bel4 := bel3.setCell (p := ⟨w.heap.size, 14, none⟩) (Nat.le_refl _) (.slice none 0 0)
  clear N3 Z3 bel3 c3 f3
  generalize y2.setCell ⟨w.heap.size, 14, none⟩ (.slice none 0 0) = y3 at *
  have sz := szC f t d
  have one := oneC f t d
  go_wp2_with (first | (refine wpList_load_at rfl 40 _ rfl w.heap.size 0 rfl (ckr f t d) _ (Cel.of_blk N4) Try.underlying40 rfl sz ?_) | (refine wpList_store_at rfl 40 _ _ rfl (w.heap.size + 1) 0 (ckr f t d) rfl rfl zck (Cel.of_blk Z4) sz rfl one ?_))
  have K := (Cel.of_blk Z4).setCells_same (ckr f t d).toList rfl
  have belE := below_setCells bel4 (Nat.le_succ _) 0 (ckr f t d).toList
  exact bodyPost_ret (v := .agg (ckr f t d)) (results_cell_at rfl _ _ (w.heap.size + 1) 0 (ckr f t d) _ rfl (K.congr (by simp)) Try.underlying40 rfl sz) rfl ⟨rfl, belE⟩
theorem together_56 (a b : ByteArray) (w : World) : Calls Try.prog 161 #[.agg (ckr 2 5 a), .agg (ckr 1 6 b)] w fun e w' => e = .returned (.bool true) ∧ Below w.heap.size w w' := by
  have N0 : Blk ((w.alloc (.cells (ckr 2 5 a) 40)).alloc (.cells (ckr 1 6 b) 40)) w.heap.size 40 (ckr 2 5 a) := (Blk.new w _ _).alloc _
  have Z0 : Blk ((w.alloc (.cells (ckr 2 5 a) 40)).alloc (.cells (ckr 1 6 b) 40)) (w.heap.size + 1) 40 (ckr 1 6 b) := blk_new2 _ _ _ _
  have bel0 := ((Below.refl w.heap.size w).alloc (Nat.le_refl _) (.cells (ckr 2 5 a) 40)).alloc (by simp) (.cells (ckr 1 6 b) 40)
  go_enter Try.func161, Try.ntmps161
  go_upto_region 1 with (fail)
  generalize (w.alloc (.cells (ckr 2 5 a) 40)).alloc (.cells (ckr 1 6 b) 40) = w0 at *
  have a1 : w0.cell? ⟨w.heap.size, 1, none⟩ = some (.int .i64 2) := N0.cell 1
  have a3 : w0.cell? ⟨w.heap.size, 3, none⟩ = some (.int .i64 0) := N0.cell 3
  have a4 : w0.cell? ⟨w.heap.size, 4, none⟩ = some (.int .i64 0) := N0.cell 4
  have b1 : w0.cell? ⟨w.heap.size + 1, 1, none⟩ = some (.int .i64 1) := Z0.cell 1
  have b3 : w0.cell? ⟨w.heap.size + 1, 3, none⟩ = some (.int .i64 0) := Z0.cell 3
  have b4 : w0.cell? ⟨w.heap.size + 1, 4, none⟩ = some (.int .i64 0) := Z0.cell 4
  have q1 : bits .and .i64 2 4 = 0 := by decide
  have q2 : bits .and .i64 1 4 = 0 := by decide
  go_wp2_with fail
  go_ret
  exact ⟨rfl, bel0⟩
end Go.Proofs.Ythddacgdmngfhaa.rea
