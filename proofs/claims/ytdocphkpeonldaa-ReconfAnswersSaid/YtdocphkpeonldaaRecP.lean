/- Layer 28: two chunks of one parameter are the same. -/
import Derived.Test.YtdocphkpeonldaaRecF
namespace Go.Proofs.Ytdocphkpeonldaa.rec_
open Go.Sort (grow)
open Go.ChangeShapes Go.WideShapes Go.ChangeAt Go.RowKit kit oct
set_option maxRecDepth 100000

set_option maxHeartbeats 4000000 in
theorem same_true (i id : Int) (k1 p1 k2 p2 : Nat) (t : Int) (s : ByteArray) (w : World) (K1 : Cel w k1 0 #[.int .i64 t, .string s]) (K2 : Cel w k2 0 #[.int .i64 t, .string s]) :
    Calls Try.prog 25 #[.agg (cd i id k1 p1), .agg (cd i id k2 p2)] w fun e w' => e = .returned (.bool true) ∧ Below w.heap.size w w' := by
  have X1 := (Blk.new w 43 (cd i id k1 p1)).alloc (.cells (cd i id k2 p2) 43)
  have Y1 := blk_new2 w (.cells (cd i id k1 p1) 43) 43 (cd i id k2 p2)
  have L1 := (K1.alloc (.cells (cd i id k1 p1) 43)).alloc (.cells (cd i id k2 p2) 43)
  have L2 := (K2.alloc (.cells (cd i id k1 p1) 43)).alloc (.cells (cd i id k2 p2) 43)
  have bel1 := ((Below.refl w.heap.size w).alloc (Nat.le_refl _) (.cells (cd i id k1 p1) 43)).alloc (by simp) (.cells (cd i id k2 p2) 43)
  have hz : (w.alloc (.cells (cd i id k1 p1) 43)).heap.size = w.heap.size + 1 := by simp
  go_enter Try.func25, Try.ntmps25
  go_upto_region 1 with (fail)
  generalize (w.alloc (.cells (cd i id k1 p1) 43)).alloc (.cells (cd i id k2 p2) 43) = w1 at *
  generalize hb : w.heap.size + 1 = b at *
  generalize ha : w.heap.size = a at *
  have x0 : w1.cell? ⟨a, 0, none⟩ = some (.int .i64 i) := X1.cell 0
  have y0 : w1.cell? ⟨b, 0, none⟩ = some (.int .i64 i) := Y1.cell 0
  have x1 : w1.cell? ⟨a, 1, none⟩ = some (.int .i64 0) := X1.cell 1
  have y1 : w1.cell? ⟨b, 1, none⟩ = some (.int .i64 0) := Y1.cell 1
  have x2 : w1.cell? ⟨a, 2, none⟩ = some (.int .u32 id) := X1.cell 2
  have y2 : w1.cell? ⟨b, 2, none⟩ = some (.int .u32 id) := Y1.cell 2
  have x3 : w1.cell? ⟨a, 3, none⟩ = some (.int .i64 0) := X1.cell 3
  have y3 : w1.cell? ⟨b, 3, none⟩ = some (.int .i64 0) := Y1.cell 3
  have x4 : w1.cell? ⟨a, 4, none⟩ = some (.int .i64 0) := X1.cell 4
  have y4 : w1.cell? ⟨b, 4, none⟩ = some (.int .i64 0) := Y1.cell 4
  have x5 : w1.cell? ⟨a, 5, none⟩ = some (.int .u32 0) := X1.cell 5
  have y5 : w1.cell? ⟨b, 5, none⟩ = some (.int .u32 0) := Y1.cell 5
  have x6 : w1.cell? ⟨a, 6, none⟩ = some (.string ⟨#[]⟩) := X1.cell 6
  have y6 : w1.cell? ⟨b, 6, none⟩ = some (.string ⟨#[]⟩) := Y1.cell 6
  have x7 : w1.cell? ⟨a, 7, none⟩ = some (.int .u32 0) := X1.cell 7
  have y7 : w1.cell? ⟨b, 7, none⟩ = some (.int .u32 0) := Y1.cell 7
  have x8 : w1.cell? ⟨a, 8, none⟩ = some (.int .u32 0) := X1.cell 8
  have y8 : w1.cell? ⟨b, 8, none⟩ = some (.int .u32 0) := Y1.cell 8
  have x9 : w1.cell? ⟨a, 9, none⟩ = some (.int .i64 0) := X1.cell 9
  have y9 : w1.cell? ⟨b, 9, none⟩ = some (.int .i64 0) := Y1.cell 9
  have x10 : w1.cell? ⟨a, 10, none⟩ = some (.int .i64 0) := X1.cell 10
  have y10 : w1.cell? ⟨b, 10, none⟩ = some (.int .i64 0) := Y1.cell 10
  have x11 : w1.cell? ⟨a, 11, none⟩ = some (.slice (some ⟨k1, 0, none⟩) 1 p1) := X1.cell 11
  have y11 : w1.cell? ⟨b, 11, none⟩ = some (.slice (some ⟨k2, 0, none⟩) 1 p2) := Y1.cell 11
  have x12 : w1.cell? ⟨a, 12, none⟩ = some (.slice none 0 0) := X1.cell 12
  have y12 : w1.cell? ⟨b, 12, none⟩ = some (.slice none 0 0) := Y1.cell 12
  have x13 : w1.cell? ⟨a, 13, none⟩ = some (.slice none 0 0) := X1.cell 13
  have y13 : w1.cell? ⟨b, 13, none⟩ = some (.slice none 0 0) := Y1.cell 13
  have x14 : w1.cell? ⟨a, 14, none⟩ = some (.slice none 0 0) := X1.cell 14
  have y14 : w1.cell? ⟨b, 14, none⟩ = some (.slice none 0 0) := Y1.cell 14
  have u0 : w1.cell? ⟨k1, 0, none⟩ = some (.int .i64 t) := L1.cell0 0 rfl
  have u1 : w1.cell? ⟨k1, 1, none⟩ = some (.string s) := L1.cell0 1 rfl
  have v0 : w1.cell? ⟨k2, 0, none⟩ = some (.int .i64 t) := L2.cell0 0 rfl
  have v1 : w1.cell? ⟨k2, 1, none⟩ = some (.string s) := L2.cell0 1 rfl
  go_upto_region 2 with (fail)
  refine wp_loop_rounds 2 ?_
  rw [rounds_succ]
  go_wp2_with fail
  go_region
  go_wp2_with fail
  rw [rounds_succ]
  go_upto_region 9 with (fail)
  refine wp_loop_rounds 1 ?_
  rw [rounds_succ]
  go_upto_region 14 with (fail)
  refine wp_loop_rounds 1 ?_
  rw [rounds_succ]
  go_upto_region 19 with (fail)
  refine wp_loop_rounds 1 ?_
  rw [rounds_succ]
  go_wp2_with fail
  go_ret
  exact ⟨rfl, by first | exact bel1.drew | (rw [ha]; exact bel1.drew)⟩
end Go.Proofs.Ytdocphkpeonldaa.rec_
