import Derived.Test.YtoaocppdbgphgaaRto
import Derived.Lib.QuietBelow
namespace Go.Proofs.Ytoaocppdbgphgaa.rto
open Go.ChangeShapes Go.WideShapes Go.ChangeAt Go.RowKit kit

theorem fld2 (a b c d : Value) (w : World) : (Instr.field 24 (.agg #[a, b, c, d]) 2).run Try.prog w = .ok c w := by kernel_rfl

set_option maxRecDepth 100000 in
theorem awake_any (w : World) : Calls Try.prog 18 #[] w fun e w' => e = .returned (.bool true) ∧ Below w.heap.size w w' := by
  have m0 : ∀ w, Calls Try.prog 16 #[.agg #[.int .i64 0, .int .i64 0, .int .i64 30, .bool false], .int .i64 10] w fun e w' => e = .returned (.agg #[.int .i64 10, .int .i64 5, .int .i64 30, .bool true]) ∧ Below w.heap.size w w' := fun w => measure_any 0 0 30 10 false w (by omega) (by omega) (by omega) (by omega)
  have hfld := fld2
  have bel : Below w.heap.size w w := Below.refl _ _
  go_enter Try.func18, Try.ntmps18
  go_wp2_with (first | (go_at_call 15; refine (first_any _).mono ?_; rintro e w1 ⟨rfl, hb⟩; replace bel := bel.trans (hb.mono bel.size)) | (go_at_call 16; refine (m0 _).mono ?_; rintro e w2 ⟨rfl, hb⟩; replace bel := bel.trans (hb.mono bel.size)))
  go_ret
  exact ⟨rfl, bel⟩
set_option maxHeartbeats 800000 in
theorem longer_law (a b c : Int) (k : Bool) (w : World) : Calls Try.prog 4 #[.agg #[.int .i64 a, .int .i64 b, .int .i64 c, .bool k]] w fun e w' => e = .returned (.bool true) ∧ Below w.heap.size w w' := by
  have hc := clamp_bd c
  go_enter Try.func4, Try.ntmps4
  go_wp2_with (first | (go_at_call 17; refine (clamp_any _ _).mono ?_; rintro e w' ⟨rfl, rfl⟩) | (go_at_call 19; refine (longer_any _ _ _ _ _).mono ?_; rintro e w1 ⟨rfl, hb1⟩; have hz1 : w.heap.size < w1.heap.size := (by have := hb1.size; simp at this; omega); have B1 := (Blk.new _ _ _).below hb1 (by simp); have C1 := fun i => B1.cell i))
  have B2 := Blk.new w1 24 #[.int .i64 a, .int .i64 b, .int .i64 (clampV (2 * clampV c)), .bool k]
  have B3 := B1.alloc (.cells #[.int .i64 a, .int .i64 b, .int .i64 (clampV (2 * clampV c)), .bool k] 24)
  have k0 := cell_regrown (B2.cell 0)
  have k1 := cell_regrown (B2.cell 1)
  have k2 := cell_regrown (B2.cell 2)
  have k3 := cell_regrown (B2.cell 3)
  have j0 := cell_regrown (B3.cell 0)
  have j1 := cell_regrown (B3.cell 1)
  have j2 := cell_regrown (B3.cell 2)
  have j3 := cell_regrown (B3.cell 3)
  refine wp_region_quiet_below (by kernel_rfl) (by kernel_rfl) ?_
  repeat (any_goals (first | go_big_quiet_step ((first | (go_at_call 18; exact Calls.regrown_of (awake_any _)) | (go_at_call 17; refine (clamp_any _ _).mono ?_; rintro e w' ⟨rfl, rfl⟩; exact ⟨rfl, _, rfl⟩))) | quiet_step ((first | (go_at_call 18; exact Calls.regrown_of (awake_any _)) | (go_at_call 17; refine (clamp_any _ _).mono ?_; rintro e w' ⟨rfl, rfl⟩; exact ⟨rfl, _, rfl⟩)))))
  refine wpQuiet_nil ?_
  intro _ hw'
  obtain ⟨⟨dq, osq⟩, hw''⟩ := hw'
  subst hw''
  go_wp2
  go_ret
  refine ⟨rfl, ?_⟩
  have h1 := (Below.refl w.heap.size w).alloc (Nat.le_refl _) (.cells #[.int .i64 a, .int .i64 b, .int .i64 c, .bool k] 24)
  have h2 := h1.trans (hb1.mono (by simp))
  have h3 := h2.alloc (by omega) (.cells #[.int .i64 a, .int .i64 b, .int .i64 (clampV (2 * clampV c)), .bool k] 24)
  exact h3.trans ((below_regrown _ dq osq).mono (by simp; omega))
end Go.Proofs.Ytoaocppdbgphgaa.rto
