/- Layer 14: a path behind errors, and behind what came. -/
import Derived.Test.YtoaocppdbgphgaaPath
namespace Go.Proofs.Ytoaocppdbgphgaa.path
open Go.ChangeShapes Go.WideShapes Go.ChangeAt Go.RowKit kit

set_option maxRecDepth 100000 in
set_option maxHeartbeats 1000000 in
theorem bad_any (er : Int) (w : World) (h0 : 0 ≤ er) (h1 : er ≤ 4) : Calls Try.prog 57 #[.agg #[.int .u32 1, .int .u32 2, .int .i64 0, .int .i64 er, .int .i64 0, .int .i64 0, .int .i64 30, .bool false, .int .i64 1800, .int .i64 60000, .int .i64 0, .int .i64 0, .int .i64 0, .int .u32 0, .int .i64 0]] w fun e w' => e = .returned (.agg #[.int .u32 1, .int .u32 2, .int .i64 (if er = 4 then 2 else 0), .int .i64 (er + 1), .int .i64 0, .int .i64 0, .int .i64 30, .bool false, .int .i64 1800, .int .i64 60000, .int .i64 0, .int .i64 0, .int .i64 0, .int .u32 0, .int .i64 0]) ∧ Below w.heap.size w w' := by
  by_cases c : er = 4
  · subst c
    go_enter Try.func57, Try.ntmps57
    go_wp2
    exact bodyPost_ret (v := .agg #[.int .u32 1, .int .u32 2, .int .i64 2, .int .i64 5, .int .i64 0, .int .i64 0, .int .i64 30, .bool false, .int .i64 1800, .int .i64 60000, .int .i64 0, .int .i64 0, .int .i64 0, .int .u32 0, .int .i64 0]) (by simp [results, Try.results57, go_sem] <;> rfl) rfl ⟨rfl, by repeat (first | exact Below.refl _ _ | exact bel | (refine Below.setCell ?_ (by simp; try omega) _) | (refine Below.alloc ?_ (by simp; try omega) _))⟩
  · rw [if_neg c]
    have c4 : er < 4 := by omega
    go_enter Try.func57, Try.ntmps57
    go_wp2
    exact bodyPost_ret (v := .agg #[.int .u32 1, .int .u32 2, .int .i64 0, .int .i64 (er + 1), .int .i64 0, .int .i64 0, .int .i64 30, .bool false, .int .i64 1800, .int .i64 60000, .int .i64 0, .int .i64 0, .int .i64 0, .int .u32 0, .int .i64 0]) (by simp [results, Try.results57, go_sem] <;> rfl) rfl ⟨rfl, by repeat (first | exact Below.refl _ _ | exact bel | (refine Below.setCell ?_ (by simp; try omega) _) | (refine Below.alloc ?_ (by simp; try omega) _))⟩

set_option maxRecDepth 100000 in
set_option maxHeartbeats 1000000 in
theorem good_any (w : World) : Calls Try.prog 58 #[.agg #[.int .u32 1, .int .u32 2, .int .i64 2, .int .i64 5, .int .i64 0, .int .i64 0, .int .i64 30, .bool false, .int .i64 1800, .int .i64 60000, .int .i64 0, .int .i64 0, .int .i64 0, .int .u32 0, .int .i64 0]] w fun e w' => e = .returned (.agg #[.int .u32 1, .int .u32 2, .int .i64 1, .int .i64 0, .int .i64 0, .int .i64 0, .int .i64 30, .bool false, .int .i64 1800, .int .i64 60000, .int .i64 0, .int .i64 0, .int .i64 0, .int .u32 0, .int .i64 0]) ∧ Below w.heap.size w w' := by
  go_enter Try.func58, Try.ntmps58
  go_wp2
  exact bodyPost_ret (v := .agg #[.int .u32 1, .int .u32 2, .int .i64 1, .int .i64 0, .int .i64 0, .int .i64 0, .int .i64 30, .bool false, .int .i64 1800, .int .i64 60000, .int .i64 0, .int .i64 0, .int .i64 0, .int .u32 0, .int .i64 0]) (by simp [results, Try.results58, go_sem] <;> rfl) rfl ⟨rfl, by repeat (first | exact Below.refl _ _ | exact bel | (refine Below.setCell ?_ (by simp; try omega) _) | (refine Below.alloc ?_ (by simp; try omega) _))⟩

end Go.Proofs.Ytoaocppdbgphgaa.path
