/- Layer 42: numbers are drawn as the document says; the statement walked. -/
import Derived.Test.YtdocphkpeonldaaStoA
import Derived.Test.YtdocphkpeonldaaKitB
namespace Go.Proofs.Ytdocphkpeonldaa.storm
open Go.Sort (grow)
open Go.ChangeShapes Go.WideShapes Go.ChangeAt Go.RowKit kit
set_option maxRecDepth 100000

abbrev tick : Array Value := #[.int .i64 13, .int .i64 0, .int .i64 1, .int .i64 0, .int .i64 0, .int .i64 0, .int .i64 0, .int .i64 0, .string ⟨#[]⟩]
theorem szT : (Try.prog.info? 63).map (·.size) = some tick.size := by kernel_rfl
theorem tick_eq (w : World) : (Op.equalIn 10000 63 (.agg tick) (.agg tick)).run Try.prog w = .ok true w := by kernel_rfl
theorem tick_eql (w : World) : (binOp .eql 63 (.agg tick) (.agg tick)).run Try.prog w = .ok (.bool true) w := by kernel_rfl
theorem next_none (g : Nat) (x l : Int) (m : Value) (w : World) (B : Blk w g 160 #[.int .u64 x, .int .i64 l, .int .i64 0, .int .i64 0, .int .i64 0, m]) : Calls Try.prog 33 #[.pointer (some ⟨g, 0, none⟩), .slice none 0 0] w fun e w' => e = .returned (.agg tick) ∧ Below w.heap.size w w' := by
  go_enter Try.func33, Try.ntmps33
  go_wp2_with fail
  exact bodyPost_ret (v := .agg tick) (results_cell_at rfl _ _ w.heap.size 0 tick _ rfl (Cel.of_blk (Blk.new _ _ _)) Try.underlying63 rfl szT) rfl ⟨rfl, (Below.refl _ _).alloc (Nat.le_refl _) _⟩
theorem first_draw : wrap64 ((IntKind.u64.wrap (IntKind.u64.wrap (3 * 6364136223846793005) + 1442695040888963407) / 8589934592).tmod 10) = 9 := by decide +kernel
theorem awake42_any (w : World) : Calls Try.prog 34 #[] w fun e w' => e = .returned (.bool true) ∧ Below w.heap.size w w' := by
  have q1 := fun w => tick_eq w
  have q2 := fun w => tick_eql w
  go_enter Try.func34, Try.ntmps34
  go_wp2_with fail
  refine (new_any 3 50 _ (by omega) (by omega)).mono ?_
  rintro e w1 ⟨g, m, rfl, hg, B, bel⟩
  go_wp2_with fail
  refine (next_none g 3 50 _ _ B).mono ?_
  rintro e w2 ⟨rfl, hb2⟩
  have B2 := B.below hb2 B.lt
  have bel2 := bel.trans (hb2.mono bel.size)
  go_wp2_with fail
  refine (draw_some g 10 3 50 _ (by omega) (by omega) _ B2).mono ?_
  rintro e w3 ⟨rfl, hw3⟩
  have bel3 : Below w.heap.size w w3 := by rw [hw3]; exact bel2.setCell (p := ⟨g, 0, none⟩) hg _
  clear hw3
  rw [first_draw]
  go_wp2_with fail
  go_ret
  exact ⟨rfl, bel3⟩
end Go.Proofs.Ytdocphkpeonldaa.storm
