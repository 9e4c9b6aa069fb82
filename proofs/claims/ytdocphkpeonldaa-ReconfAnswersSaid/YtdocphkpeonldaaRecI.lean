/- Layer 28: the answer is taken. -/
import Derived.Test.YtdocphkpeonldaaRecF
import Derived.Test.YtdocphkpeonldaaRecD
import Derived.StillTailTactics
namespace Go.Proofs.Ytdocphkpeonldaa.rec_
open Go.Sort (grow)
open Go.ChangeShapes Go.WideShapes Go.ChangeAt Go.RowKit kit oct
set_option maxRecDepth 100000

set_option maxHeartbeats 2000000 in
theorem answer_one (b0 g k cap : Nat) (w : World) (B : Blk w g 149 (st 5 9 3 1 1)) (K : Cel w k 0 #[.int .i64 16, .string (rS 5 1)]) (hkg : k ≠ g) (hg : b0 ≤ g) :
    Calls Try.prog 26 #[.pointer (some ⟨g, 0, none⟩), .agg (cd 130 5 k cap)] w fun e w' => e = .returned (.tuple #[.int .i64 3, .bool true]) ∧ Below b0 w w' := by
  have hM : ∀ w, Calls Try.prog 17 #[.agg #[.int .i64 16, .string (rS 5 1)]] w fun e w' => e = .returned (.tuple #[.int .u32 5, .int .i64 1, .bool true]) ∧ Below w.heap.size w w' := fun w => by
    have := asResult_any 16 (rS 5 1) w (by rw [rS_size]; unfold maxLen; omega)
    rw [isR_rS 5 1 (by omega) (by omega), (rS_all 5 1 (by omega) (by omega)).1, (rS_all 5 1 (by omega) (by omega)).2] at this
    exact this
  have hgw := B.lt
  have X1 := Blk.new w 43 (cd 130 5 k cap)
  have B1 := B.alloc (.cells (cd 130 5 k cap) 43)
  have K1 := K.alloc (.cells (cd 130 5 k cap) 43)
  have bel1 := (Below.refl b0 w).alloc (by omega) (.cells (cd 130 5 k cap) 43)
  go_enter Try.func26, Try.ntmps26
  go_upto_region 1 with (fail)
  generalize w.alloc (.cells (cd 130 5 k cap) 43) = w1 at *
  have hxg : w.heap.size ≠ g := by omega
  generalize hx : w.heap.size = x at *
  have x0 : w1.cell? ⟨x, 0, none⟩ = some (.int .i64 130) := X1.cell 0
  have x2 : w1.cell? ⟨x, 2, none⟩ = some (.int .u32 5) := X1.cell 2
  have s0 : w1.cell? ⟨g, 0, none⟩ = some (.int .u32 5) := B1.cell 0
  have s3 : w1.cell? ⟨g, 3, none⟩ = some (.int .i64 1) := B1.cell 3
  go_quiet ((exact Calls.quiet_of_same (times_of g 5 9 3 1 1 _ B1)))
  have B2 : Blk (w1.drewN nq) g 149 (st 5 9 3 1 1) := B1
  have X2 : Blk (w1.drewN nq) x 43 (cd 130 5 k cap) := X1
  have K2 : Cel (w1.drewN nq) k 0 #[.int .i64 16, .string (rS 5 1)] := K1
  have bel2 : Below b0 w (w1.drewN nq) := ⟨bel1.os, bel1.tape, bel1.output, bel1.size, bel1.block⟩
  clear B1 X1 K1 bel1 x0 x2 s0 s3 B K
  generalize w1.drewN nq = w2 at *
  have x11 : w2.cell? ⟨x, 11, none⟩ = some (.slice (some ⟨k, 0, none⟩) 1 cap) := X2.cell 11
  have y0 : w2.cell? ⟨k, 0, none⟩ = some (.int .i64 16) := K2.cell0 0 rfl
  have y1 : w2.cell? ⟨k, 1, none⟩ = some (.string (rS 5 1)) := K2.cell0 1 rfl
  have hgl := B2.lt
  generalize hS : rS 5 1 = S at *
  go_wp2_with fail
  refine wp_loop_rounds 2 ?_
  rw [rounds_succ]
  go_wp2_with fail
  refine (hM _).mono ?_
  rintro e w3 ⟨rfl, hb3⟩
  have B3 := (B2.alloc (.cells #[.int .i64 16, .string S] 23)).below hb3 (by simp; omega)
  have bel3 := (bel2.alloc (by omega) (.cells #[.int .i64 16, .string S] 23)).trans (hb3.mono (by simp; omega))
  clear B2 X2 K2 bel2 x11 y0 y1 hb3
  have z0 : w3.cell? ⟨g, 0, none⟩ = some (.int .u32 5) := B3.cell 0
  have z0f : w3.frozen? ⟨g, 0, none⟩ = false := B3.frozen 0
  have z2 : w3.cell? ⟨g, 2, none⟩ = some (.int .i64 3) := B3.cell 2
  have z2f : w3.frozen? ⟨g, 2, none⟩ = false := B3.frozen 2
  have z3 : w3.cell? ⟨g, 3, none⟩ = some (.int .i64 1) := B3.cell 3
  have z3f : w3.frozen? ⟨g, 3, none⟩ = false := B3.frozen 3
  have z4 : w3.cell? ⟨g, 4, none⟩ = some (.int .i64 1) := B3.cell 4
  have z4f : w3.frozen? ⟨g, 4, none⟩ = false := B3.frozen 4
  go_wp2_with fail
  go_ret2
  exact ⟨rfl, (((bel3.setCell (p := ⟨g, 0, none⟩) hg _).setCell (p := ⟨g, 2, none⟩) hg _).setCell (p := ⟨g, 3, none⟩) hg _).setCell (p := ⟨g, 4, none⟩) hg _⟩
end Go.Proofs.Ytdocphkpeonldaa.rec_
