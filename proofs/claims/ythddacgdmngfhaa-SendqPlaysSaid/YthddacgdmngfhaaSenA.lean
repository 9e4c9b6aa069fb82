/- Layer 20: nobody waits; the statement walked. -/
import Derived.Test.YthddacgdmngfhaaFraB
import Derived.Laws.ResultCell
namespace Go.Proofs.Ythddacgdmngfhaa.sen
open Go.Sort (grow)
open Go.ChangeShapes Go.WideShapes Go.ChangeAt Go.RowKit kit fra
set_option maxRecDepth 100000

theorem szC : (Try.prog.info? 40).map (·.size) = some 15 := by kernel_rfl
theorem len_nil (w : World) : Calls Try.prog 23 #[.pointer none] w fun e w' => e = .returned (.int .i64 0) ∧ w' = w := by
  go_enter Try.func23, Try.ntmps23
  go_wp2
  go_ret
  exact ⟨rfl, rfl⟩
theorem bytes_nil (w : World) : Calls Try.prog 22 #[.pointer none] w fun e w' => e = .returned (.int .i64 0) ∧ w' = w := by
  go_enter Try.func22, Try.ntmps22
  go_wp2
  go_ret
  exact ⟨rfl, rfl⟩
theorem streams_nil (w : World) : Calls Try.prog 24 #[.pointer none] w fun e w' => e = .returned (.int .i64 0) ∧ w' = w := by
  go_enter Try.func24, Try.ntmps24
  go_wp2
  go_ret
  exact ⟨rfl, rfl⟩
theorem grow_nil (n : Int) (w : World) : Calls Try.prog 19 #[.pointer none, .int .i64 n] w fun e w' => e = .returned (.tuple #[]) ∧ w' = w := by
  go_enter Try.func19, Try.ntmps19
  go_wp2_with fail
  refine bodyPost_ret (v := .tuple #[]) ?_ rfl ⟨rfl, rfl⟩
  simp [results]
theorem peek_nil (w : World) : Calls Try.prog 16 #[.pointer none] w fun e w' => e = .returned (.tuple #[.int .i64 0, .bool false]) ∧ w' = w := by
  go_enter Try.func16, Try.ntmps16
  go_wp2_with fail
  refine (len_nil _).mono ?_
  rintro e w1 ⟨rfl, rfl⟩
  go_wp2_with fail
  go_ret2
  exact ⟨rfl, rfl⟩
theorem take_nil (w : World) : Calls Try.prog 17 #[.pointer none] w fun e w' => e = .returned (.tuple #[.agg (ck 0 0 0 0 ⟨#[]⟩), .bool false]) ∧ Below w.heap.size w w' := by
  go_enter Try.func17, Try.ntmps17
  go_wp2_with fail
  refine (len_nil _).mono ?_
  rintro e w1 ⟨rfl, rfl⟩
  go_wp2
  have B := Blk.new w 40 (ck 0 0 0 0 ⟨#[]⟩)
  have bel := (Below.refl w.heap.size w).alloc (Nat.le_refl _) (.cells (ck 0 0 0 0 ⟨#[]⟩) 40)
  refine bodyPost_ret (v := .tuple #[.agg (ck 0 0 0 0 ⟨#[]⟩), .bool false]) ?_ rfl ⟨rfl, bel⟩
  rw [results_cell_tmp rfl]
  have h := run_loadVar_row (w.alloc (.cells (ck 0 0 0 0 ⟨#[]⟩) 40)) w.heap.size 40 40 _ (0, 0) _ B Try.underlying40 rfl (by kernel_rfl)
  have h2 : w.alloc (.cells (ck 0 0 0 0 ⟨#[]⟩) 40) = w.alloc (.cells #[.int .i64 0, .int .i64 0, .int .u32 0, .int .i64 0, .int .i64 0, .int .u32 0, .string ⟨#[]⟩, .int .u32 0, .int .u32 0, .int .i64 0, .int .i64 0, .slice none 0 0, .slice none 0 0, .slice none 0 0, .slice none 0 0] 40) := rfl
  rw [h2] at h
  simp [asAddr, h]
theorem take_nil' (w : World) : Calls Try.prog 17 #[.pointer none] w fun e w' => e = .returned (.tuple #[.agg #[.int .i64 0, .int .i64 0, .int .u32 0, .int .i64 0, .int .i64 0, .int .u32 0, .string ⟨#[]⟩, .int .u32 0, .int .u32 0, .int .i64 0, .int .i64 0, .slice none 0 0, .slice none 0 0, .slice none 0 0, .slice none 0 0], .bool false]) ∧ Below w.heap.size w w' := take_nil w
theorem put_nil (st ss pr n : Int) (lo : Bool) (D : ByteArray) (w : World) : Calls Try.prog 20 #[.pointer none, .agg (ms st ss lo pr D), .int .i64 n] w fun e w' => e = .returned (.int .i64 1) ∧ Below w.heap.size w w' := by
  have M0 := Blk.new w 30 (ms st ss lo pr D)
  have bel := (Below.refl w.heap.size w).alloc (Nat.le_refl _) (.cells (ms st ss lo pr D) 30)
  go_enter Try.func20, Try.ntmps20
  go_wp2_with fail
  generalize w.alloc (.cells (ms st ss lo pr D) 30) = w1 at *
  have c0 : w1.cell? ⟨w.heap.size, 0, none⟩ = some (.int .i64 st) := M0.cell 0
  clear M0
  rcases (by omega : st < 0 ∨ (¬ st < 0 ∧ 0 ≤ st)) with q | ⟨q, q2⟩
  · have hd : decide (st < 0) = true := decide_eq_true q
    go_quiet ((fail))
    go_wp2_with fail
    go_ret
    exact ⟨rfl, ⟨bel.os, bel.tape, bel.output, bel.size, bel.block⟩⟩
  · have hd : decide (st < 0) = false := decide_eq_false q
    have hd2 : decide (0 ≤ st) = true := decide_eq_true q2
    go_quiet ((exact Calls.quiet_of_same (streams_nil _)))
    go_wp2_with fail
    go_ret
    exact ⟨rfl, ⟨bel.os, bel.tape, bel.output, bel.size, bel.block⟩⟩
end Go.Proofs.Ythddacgdmngfhaa.sen
