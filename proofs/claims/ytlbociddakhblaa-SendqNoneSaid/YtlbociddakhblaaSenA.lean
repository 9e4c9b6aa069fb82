/- Layer 20: nobody waits; the statement walked. -/
import Derived.Test.YtlbociddakhblaaFraB
import Derived.Laws.ResultCell
namespace Go.Proofs.Ytlbociddakhblaa.sen
open Go.Sort (grow)
open Go.ChangeShapes Go.WideShapes Go.ChangeAt Go.RowKit kit fra
set_option maxRecDepth 100000

theorem szC : (Try.prog.info? 71).map (·.size) = some 15 := by kernel_rfl
theorem len_nil (w : World) : Calls Try.prog 71 #[.pointer none] w fun e w' => e = .returned (.int .i64 0) ∧ w' = w := by
  go_enter Try.func71, Try.ntmps71
  go_wp2
  go_ret
  exact ⟨rfl, rfl⟩
theorem bytes_nil (w : World) : Calls Try.prog 72 #[.pointer none] w fun e w' => e = .returned (.int .i64 0) ∧ w' = w := by
  go_enter Try.func72, Try.ntmps72
  go_wp2
  go_ret
  exact ⟨rfl, rfl⟩
theorem streams_nil (w : World) : Calls Try.prog 73 #[.pointer none] w fun e w' => e = .returned (.int .i64 0) ∧ w' = w := by
  go_enter Try.func73, Try.ntmps73
  go_wp2
  go_ret
  exact ⟨rfl, rfl⟩
theorem grow_nil (n : Int) (w : World) : Calls Try.prog 66 #[.pointer none, .int .i64 n] w fun e w' => e = .returned (.tuple #[]) ∧ w' = w := by
  go_enter Try.func66, Try.ntmps66
  go_wp2_with fail
  refine bodyPost_ret (v := .tuple #[]) ?_ rfl ⟨rfl, rfl⟩
  simp [results]
theorem peek_nil (w : World) : Calls Try.prog 67 #[.pointer none] w fun e w' => e = .returned (.tuple #[.int .i64 0, .bool false]) ∧ w' = w := by
  go_enter Try.func67, Try.ntmps67
  go_wp2_with fail
  refine (len_nil _).mono ?_
  rintro e w1 ⟨rfl, rfl⟩
  go_wp2_with fail
  go_ret2
  exact ⟨rfl, rfl⟩
theorem take_nil (w : World) : Calls Try.prog 68 #[.pointer none] w fun e w' => e = .returned (.tuple #[.agg (ck 0 0 0 0 ⟨#[]⟩), .bool false]) ∧ Below w.heap.size w w' := by
  go_enter Try.func68, Try.ntmps68
  go_wp2_with fail
  refine (len_nil _).mono ?_
  rintro e w1 ⟨rfl, rfl⟩
  go_wp2
  have B := Blk.new w 71 (ck 0 0 0 0 ⟨#[]⟩)
  have bel := (Below.refl w.heap.size w).alloc (Nat.le_refl _) (.cells (ck 0 0 0 0 ⟨#[]⟩) 71)
  refine bodyPost_ret (v := .tuple #[.agg (ck 0 0 0 0 ⟨#[]⟩), .bool false]) ?_ rfl ⟨rfl, bel⟩
  rw [results_cell_tmp rfl]
  have h := run_loadVar_row (w.alloc (.cells (ck 0 0 0 0 ⟨#[]⟩) 71)) w.heap.size 71 71 _ (0, 0) _ B Try.underlying71 rfl (by kernel_rfl)
  have h2 : w.alloc (.cells (ck 0 0 0 0 ⟨#[]⟩) 71) = w.alloc (.cells #[.int .i64 0, .int .i64 0, .int .u32 0, .int .i64 0, .int .i64 0, .int .u32 0, .string ⟨#[]⟩, .int .u32 0, .int .u32 0, .int .i64 0, .int .i64 0, .slice none 0 0, .slice none 0 0, .slice none 0 0, .slice none 0 0] 71) := rfl
  rw [h2] at h
  simp [asAddr, h]
theorem take_nil' (w : World) : Calls Try.prog 68 #[.pointer none] w fun e w' => e = .returned (.tuple #[.agg #[.int .i64 0, .int .i64 0, .int .u32 0, .int .i64 0, .int .i64 0, .int .u32 0, .string ⟨#[]⟩, .int .u32 0, .int .u32 0, .int .i64 0, .int .i64 0, .slice none 0 0, .slice none 0 0, .slice none 0 0, .slice none 0 0], .bool false]) ∧ Below w.heap.size w w' := take_nil w
theorem put_nil (st ss pr n : Int) (lo : Bool) (D : ByteArray) (w : World) : Calls Try.prog 70 #[.pointer none, .agg (ms st ss lo pr D), .int .i64 n] w fun e w' => e = .returned (.int .i64 1) ∧ Below w.heap.size w w' := by
  have M0 := Blk.new w 63 (ms st ss lo pr D)
  have bel := (Below.refl w.heap.size w).alloc (Nat.le_refl _) (.cells (ms st ss lo pr D) 63)
  go_enter Try.func70, Try.ntmps70
  go_wp2_with fail
  generalize w.alloc (.cells (ms st ss lo pr D) 63) = w1 at *
  have c0 : w1.cell? ⟨w.heap.size, 0, none⟩ = some (.int .i64 st) := M0.cell 0
  clear M0
  rcases (by omega : st < 0 ∨ (¬ st < 0 ∧ 0 ≤ st)) with q | ⟨q, q2⟩
  · have hd : decide (st < 0) = true := decide_eq_true q
    go_quiet ((fail))
    go_wp2_with fail
    go_ret
    exact ⟨rfl, ⟨bel.os, bel.tape, bel.output, bel.size, bel.block⟩⟩
  · have hd : decide (st < 0) = false := decide_eq_false q
    have hd2 : decide (0 ≤ st) = true := decide_eq_true q2
    go_quiet ((exact Calls.quiet_of_same (streams_nil _)))
    go_wp2_with fail
    go_ret
    exact ⟨rfl, ⟨bel.os, bel.tape, bel.output, bel.size, bel.block⟩⟩
set_option maxHeartbeats 4000000 in
theorem none_of (awake20_any : ∀ w, Calls Try.prog 69 #[] w fun e w' => e = .returned (.bool true) ∧ Below w.heap.size w w') (st ss pr n : Int) (lo : Bool) (D : ByteArray) (w : World) :
    Calls Try.prog 13 #[.agg (ms st ss lo pr D), .int .i64 n] w fun e w' => e = .returned (.bool true) ∧ Below w.heap.size w w' := by
  have M0 := Blk.new w 63 (ms st ss lo pr D)
  have bel0 := (Below.refl w.heap.size w).alloc (Nat.le_refl _) (.cells (ms st ss lo pr D) 63)
  go_enter Try.func13, Try.ntmps13
  go_wp2_with fail
  generalize w.alloc (.cells (ms st ss lo pr D) 63) = w0 at *
  refine (grow_nil _ _).mono ?_
  rintro e w1 ⟨rfl, rfl⟩
  go_wp2_with fail
  refine (peek_nil _).mono ?_
  rintro e w1 ⟨rfl, rfl⟩
  go_wp2_with fail
  refine (take_nil' _).mono ?_
  rintro e w1 ⟨rfl, hb1⟩
  have M1 : Blk w1 w.heap.size 63 (ms st ss lo pr D) := (hb1.block _ M0.lt).trans M0
  have bel1 := bel0.trans (hb1.mono bel0.size)
  clear M0 bel0 hb1
  go_upto_region 5 with (fail)
  have C5 : Cel (w1.alloc (.cells #[.int .i64 0, .int .i64 0, .int .u32 0, .int .i64 0, .int .i64 0, .int .u32 0, .string ⟨#[]⟩, .int .u32 0, .int .u32 0, .int .i64 0, .int .i64 0, .slice none 0 0, .slice none 0 0, .slice none 0 0, .slice none 0 0] 71)) w1.heap.size 0 (ck 0 0 0 0 ⟨#[]⟩) := Cel.of_blk (Blk.new w1 71 (ck 0 0 0 0 ⟨#[]⟩))
  have bel5 : Below w1.heap.size w1 (w1.alloc (.cells #[.int .i64 0, .int .i64 0, .int .u32 0, .int .i64 0, .int .i64 0, .int .u32 0, .string ⟨#[]⟩, .int .u32 0, .int .u32 0, .int .i64 0, .int .i64 0, .slice none 0 0, .slice none 0 0, .slice none 0 0, .slice none 0 0] 71)) := (Below.refl _ _).alloc (Nat.le_refl _) _
  generalize w1.alloc (.cells #[.int .i64 0, .int .i64 0, .int .u32 0, .int .i64 0, .int .i64 0, .int .u32 0, .string ⟨#[]⟩, .int .u32 0, .int .u32 0, .int .i64 0, .int .i64 0, .slice none 0 0, .slice none 0 0, .slice none 0 0, .slice none 0 0] 71) = w5 at *
  have M5 : Blk w5 w.heap.size 63 (ms st ss lo pr D) := (bel5.block _ M1.lt).trans M1
  have belw := bel1.trans (bel5.mono bel1.size)
  clear M1 bel1 bel5
  go_wp2_with fail
  refine (awake20_any _).mono ?_
  rintro e w6 ⟨rfl, hb6⟩
  have M6 : Blk w6 w.heap.size 63 (ms st ss lo pr D) := (hb6.block _ M5.lt).trans M5
  have C6 := C5.below hb6 C5.lt
  have bel6 := belw.trans (hb6.mono belw.size)
  clear M5 C5 belw hb6
  have x0 : w6.cell? ⟨w.heap.size, 0, none⟩ = some (.int .i64 st) := M6.cell 0
  have x1 : w6.cell? ⟨w.heap.size, 1, none⟩ = some (.int .i64 ss) := M6.cell 1
  have x2 : w6.cell? ⟨w.heap.size, 2, none⟩ = some (.bool lo) := M6.cell 2
  have x3 : w6.cell? ⟨w.heap.size, 3, none⟩ = some (.int .u32 pr) := M6.cell 3
  have x4 : w6.cell? ⟨w.heap.size, 4, none⟩ = some (.string D) := M6.cell 4
  go_wp2_with fail
  clear x0 x1 x2 x3 x4 M6
  refine (put_nil st ss pr n lo D _).mono ?_
  rintro e w7 ⟨rfl, hb7⟩
  have C7 := C6.below hb7 C6.lt
  have bel7 := bel6.trans (hb7.mono bel6.size)
  have c6 : w7.cell? ⟨w1.heap.size, 6, none⟩ = some (.string ⟨#[]⟩) := C7.cell0 6 (u := .string ⟨#[]⟩) rfl
  clear C6 C7 bel6 hb7
  go_wp2_with fail
  refine (len_nil _).mono ?_
  rintro e w8 ⟨rfl, rfl⟩
  go_wp2_with fail
  refine (bytes_nil _).mono ?_
  rintro e w8 ⟨rfl, rfl⟩
  go_wp2_with fail
  refine (streams_nil _).mono ?_
  rintro e w8 ⟨rfl, rfl⟩
  go_wp2_with fail
  go_ret
  exact ⟨rfl, bel7⟩
end Go.Proofs.Ytlbociddakhblaa.sen
