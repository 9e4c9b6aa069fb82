/- Layer 21: the chunk that came is taken out; none in gaps; none missed. -/
import Derived.Test.YthddacgdmngfhaaFliF
import Derived.StillTailTactics
namespace Go.Proofs.Ythddacgdmngfhaa.fli
open Go.Sort (grow)
open Go.ChangeShapes Go.WideShapes Go.ChangeAt Go.RowKit kit
set_option maxRecDepth 100000

theorem sent_zero (w : World) : (zeroValue 231).run Try.prog w = .ok (.agg zS) w := Try.zeroValue231 w
theorem zS_one : ∀ u ∈ zS.toList, u.oneCell' = true := fun x hx => (Array.all_eq_true_iff_forall_mem.1 (show zS.all (·.oneCell') = true by kernel_rfl)) x (by simpa using hx)
theorem run_clear_sent (w : World) (ty : TypeId) (h c : Nat) (K : Cel w h 0 sc) :
    (Builtin.clear_ #[227] ty #[.slice (some ⟨h, 0, none⟩) 1 c]).run Try.prog w = .ok (.tuple #[]) (w.setCells h 0 zS.toList) := by
  have hst := run_storeCells_cells (P := Try.prog) h 0 zS.toList 0 w (fun j hj => K.isSome j (by have : zS.toList.length = sc.size := rfl; omega)) (fun j hj => K.frozen j (by have : zS.toList.length = sc.size := rfl; omega)) zS_one
  simp only [Nat.add_zero] at hst
  have hzc : (Builtin.zeroCells (Value.agg zS).cells 1).toList = zS.toList := by kernel_rfl
  simp only [Builtin.clear_, run_underlying Try.underlying227, Sem.run_bind, Result.andThen_ok]
  simp [sent_zero]
  show (Sem.run _ (storeCells _ (Builtin.zeroCells (Value.agg zS).cells 1).toList) w).andThen _ = _
  rw [hzc, hst]
  rfl
theorem delete_one (h cap : Nat) (w : World) (hc1 : 1 ≤ cap) (hc2 : cap ≤ maxLen) (K : Cel w h 0 sc) : Calls Try.prog 130 #[.slice (some ⟨h, 0, none⟩) 1 cap, .int .i64 0, .int .i64 1] w fun e w' => e = .returned (.slice (some ⟨h, 0, none⟩) 0 cap) ∧ w' = w.drew.setCells h 0 zS.toList := by
  unfold maxLen at hc2
  go_enter Try.func130, Try.ntmps130
  go_wp2_with fail
  refine wp_region_still_tail 6 (by kernel_rfl) (by kernel_rfl) ?_
  simp only [List.take_succ_cons, List.take_zero, List.drop_succ_cons, List.drop_zero]
  repeat still_step
  refine wpStill_nil ?_
  change wpList _ _ _ _ _ w.drew
  have hcl := fun ty c => run_clear_sent w.drew ty h c K.drew
  clear K
  generalize hw : w.drew = w1 at *
  have HW := Lib.hid hw
  clear hw
  by_cases h1 : cap = 1
  · subst h1
    go_wp2
    go_ret
    exact ⟨rfl, by rw [HW.out]⟩
  · go_wp2
    go_ret
    exact ⟨rfl, by rw [HW.out]⟩
theorem gapped_none (g h cap a : Nat) (u : Int) (w : World) (B : Blk w g 229 #[.int .u32 u, .slice (some ⟨h, 0, none⟩) 0 cap]) : Calls Try.prog 132 #[.pointer (some ⟨g, 0, none⟩), .slice none 0 0, .pointer (some ⟨a, 0, none⟩), .int .i64 9] w fun e w' => e = .returned (.int .i64 (-1)) ∧ w' = w := by
  have c1 : w.cell? ⟨g, 1, none⟩ = some (.slice (some ⟨h, 0, none⟩) 0 cap) := B.cell 1
  go_enter Try.func132, Try.ntmps132
  go_wp2_with fail
  refine wp_loop_rounds 1 ?_
  rw [rounds_succ]
  go_wp2_with fail
  go_ret
  exact ⟨rfl, rfl⟩
theorem miss_none (g a : Nat) (w : World) : Calls Try.prog 131 #[.pointer (some ⟨g, 0, none⟩), .int .i64 (-1), .pointer (some ⟨a, 0, none⟩)] w fun e w' => e = .returned (.tuple #[]) ∧ w' = w := by
  go_enter Try.func131, Try.ntmps131
  go_wp2_with fail
  refine wp_loop_rounds 1 ?_
  rw [rounds_succ]
  go_wp2_with fail
  go_end0
  exact ⟨rfl, rfl⟩
end Go.Proofs.Ythddacgdmngfhaa.fli
