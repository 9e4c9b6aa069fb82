/- Layer 31: of no net nothing comes. -/
import Derived.Test.YtlbociddakhblaaNatA
import Derived.Laws.ResultCell
import Derived.Laws.Tables
namespace Go.Proofs.Ytlbociddakhblaa.net
open Go.ChangeShapes Go.WideShapes Go.ChangeAt Go.RowKit kit
set_option maxRecDepth 100000

theorem len_nil (w : World) : Calls Try.prog 20 #[.pointer none] w fun e w' => e = .returned (.int .i64 0) ∧ w = w' := by
  go_enter Try.func20, Try.ntmps20
  go_wp2
  go_ret
  exact ⟨rfl, rfl⟩
theorem full_nil (w : World) : Calls Try.prog 21 #[.pointer none] w fun e w' => e = .returned (.int .i64 0) ∧ w = w' := by
  go_enter Try.func21, Try.ntmps21
  go_wp2
  go_ret
  exact ⟨rfl, rfl⟩
theorem all_nil (w : World) : Calls Try.prog 22 #[.pointer none] w fun e w' => e = .returned (.slice none 0 0) ∧ w = w' := by
  go_enter Try.func22, Try.ntmps22
  go_wp2
  go_ret
  exact ⟨rfl, rfl⟩
theorem has_nil (at_ : Int) (w : World) : Calls Try.prog 87 #[.pointer none, .int .i64 at_] w fun e w' => e = .returned (.bool false) ∧ w = w' := by
  by_cases h : 0 ≤ at_
  · have h0 : decide (0 ≤ at_) = true := decide_eq_true h
    have h1 : decide (at_ < 0) = false := decide_eq_false (by omega)
    go_enter Try.func87, Try.ntmps87
    go_wp2_with fail
    refine (len_nil _).mono ?_
    rintro e w1 ⟨rfl, rfl⟩
    go_wp2
    go_ret
    exact ⟨rfl, rfl⟩
  · have h0 : decide (0 ≤ at_) = false := decide_eq_false h
    have h1 : decide (at_ < 0) = true := decide_eq_true (by omega)
    go_enter Try.func87, Try.ntmps87
    go_wp2
    go_ret
    exact ⟨rfl, rfl⟩
theorem double_nil (at_ : Int) (w : World) : Calls Try.prog 18 #[.pointer none, .int .i64 at_] w fun e w' => e = .returned (.bool false) ∧ w = w' := by
  go_enter Try.func18, Try.ntmps18
  go_wp2_with fail
  refine (has_nil _ _).mono ?_
  rintro e w1 ⟨rfl, rfl⟩
  go_wp2
  go_ret
  exact ⟨rfl, rfl⟩
theorem bend_nil (at_ b : Int) (w : World) : Calls Try.prog 19 #[.pointer none, .int .i64 at_, .int .i64 b] w fun e w' => e = .returned (.bool false) ∧ w = w' := by
  go_enter Try.func19, Try.ntmps19
  go_wp2_with fail
  refine (has_nil _ _).mono ?_
  rintro e w1 ⟨rfl, rfl⟩
  go_wp2
  go_ret
  exact ⟨rfl, rfl⟩
theorem put_nil (x : Array Value) (w : World) : Calls Try.prog 17 #[.pointer none, .agg x] w fun e w' => e = .returned (.bool false) ∧ Below w.heap.size w w' := by
  go_enter Try.func17, Try.ntmps17
  go_wp2
  go_ret
  exact ⟨rfl, (Below.refl _ _).alloc (Nat.le_refl _) _⟩
abbrev item (a b c d : Int) (q : ByteArray) (x : Bool) : Array Value := #[.int .i64 a, .int .i64 b, .int .u32 c, .int .u32 d, .string q, .bool x]
theorem take_nil (at_ : Int) (w : World) : Calls Try.prog 15 #[.pointer none, .int .i64 at_] w fun e w' => e = .returned (.tuple #[.agg (item 0 0 0 0 ⟨#[]⟩ false), .bool false]) ∧ Below w.heap.size w w' := by
  go_enter Try.func15, Try.ntmps15
  go_wp2_with fail
  refine (has_nil _ _).mono ?_
  rintro e w1 ⟨rfl, rfl⟩
  go_wp2
  have B := Blk.new w 27 (item 0 0 0 0 ⟨#[]⟩ false)
  have bel := (Below.refl w.heap.size w).alloc (Nat.le_refl _) (.cells (item 0 0 0 0 ⟨#[]⟩ false) 27)
  generalize w.alloc (.cells (item 0 0 0 0 ⟨#[]⟩ false) 27) = w1 at *
  refine bodyPost_ret (v := .tuple #[.agg (item 0 0 0 0 ⟨#[]⟩ false), .bool false]) ?_ rfl ⟨rfl, bel⟩
  rw [results_cell_tmp rfl]
  have h := run_loadVar_row w1 w.heap.size 27 27 _ (0, 0) _ B Try.underlying27 rfl (by kernel_rfl)
  simp [asAddr, h]
theorem new_net (w : World) : Calls Try.prog 89 #[] w fun e w' => e = .returned (.pointer (some ⟨w.heap.size, 0, none⟩)) ∧ w' = w.alloc (.cells #[.slice none 0 0, .int .i64 0] 119) := by
  go_enter Try.func89, Try.ntmps89
  go_wp2
  go_ret
  exact ⟨rfl, rfl⟩
end Go.Proofs.Ytlbociddakhblaa.net
