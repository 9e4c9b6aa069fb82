/- Layer 28: a request is read; a chunk of one parameter is copied. -/
import Derived.Test.YtdocphkpeonldaaRecC
import Derived.Deep.AppendLies
namespace Go.Proofs.Ytdocphkpeonldaa.rec_
open Go.Sort (grow)
open Go.ChangeShapes Go.WideShapes Go.ChangeAt Go.RowKit kit oct
set_option maxRecDepth 100000

set_option maxHeartbeats 1000000 in
theorem requested_one (h : Nat) (w : World) (G : Blk w h 23 #[.int .i64 17, .string (mS 5 3)]) : Calls Try.prog 82 #[.agg (cc 130 5 h)] w fun e w' => e = .returned (.tuple #[.int .i64 3, .bool true]) ∧ Below w.heap.size w w' := by
  have hM : ∀ w, Calls Try.prog 15 #[.agg #[.int .i64 17, .string (mS 5 3)]] w fun e w' => e = .returned (.tuple #[.int .u32 5, .int .i64 3, .bool true]) ∧ Below w.heap.size w w' := fun w => by
    have := asMore_any 17 (mS 5 3) w (by rw [mS_size]; unfold maxLen; omega)
    rw [isM_mS 5 3 (by omega) (by omega), (mS_all 5 3 (by omega) (by omega)).1, (mS_all 5 3 (by omega) (by omega)).2.1] at this
    exact this
  have X1 := Blk.new w 43 (cc 130 5 h)
  have G1 := G.alloc (.cells (cc 130 5 h) 43)
  have bel1 := (Below.refl w.heap.size w).alloc (Nat.le_refl _) (.cells (cc 130 5 h) 43)
  go_enter Try.func82, Try.ntmps82
  go_upto_region 1 with (fail)
  generalize w.alloc (.cells (cc 130 5 h) 43) = w1 at *
  generalize hx : w.heap.size = x at *
  have x0 : w1.cell? ⟨x, 0, none⟩ = some (.int .i64 130) := X1.cell 0
  have x2 : w1.cell? ⟨x, 2, none⟩ = some (.int .u32 5) := X1.cell 2
  have x11 : w1.cell? ⟨x, 11, none⟩ = some (.slice (some ⟨h, 0, none⟩) 1 1) := X1.cell 11
  have y0 : w1.cell? ⟨h, 0, none⟩ = some (.int .i64 17) := G1.cell 0
  have y1 : w1.cell? ⟨h, 1, none⟩ = some (.string (mS 5 3)) := G1.cell 1
  have hxl := X1.lt
  generalize hS : mS 5 3 = S at *
  go_wp2_with fail
  refine wp_loop_rounds 2 ?_
  rw [rounds_succ]
  go_wp2_with fail
  refine (hM _).mono ?_
  rintro e w2 ⟨rfl, hb2⟩
  have X2 := (X1.alloc (.cells #[.int .i64 17, .string S] 23)).below hb2 (by simp; omega)
  have bel2 := (bel1.alloc (by omega) (.cells #[.int .i64 17, .string S] 23)).trans (hb2.mono (by simp; omega))
  clear X1 G1 G bel1 x0 x2 x11 y0 y1 hb2
  have x2 : w2.cell? ⟨x, 2, none⟩ = some (.int .u32 5) := X2.cell 2
  go_wp2_with fail
  go_ret2
  exact ⟨rfl, by first | exact bel2 | (rw [hx]; exact bel2)⟩
end Go.Proofs.Ytdocphkpeonldaa.rec_
