/- Layer 6: which types are known; each switch by a contract. -/
import Derived.Test.YtlpklnjnfeodaaaRows
import Derived.Test.YtlpklnjnfeodaaaKit
import Derived.Outline
import Derived.OwnWalk
namespace Go.Proofs.Ytlpklnjnfeodaaa.chk
open Go.ChangeShapes Go.WideShapes Go.ChangeAt Go.RowKit kit
set_option maxRecDepth 100000

/-- The types that are known. -/
def knB (n : Int) : Bool := decide (n = 0 ∨ n = 1 ∨ n = 2 ∨ n = 3 ∨ n = 4 ∨ n = 5 ∨ n = 6 ∨ n = 7 ∨ n = 8 ∨ n = 9 ∨ n = 10 ∨ n = 11 ∨ n = 14 ∨ n = 15 ∨ n = 193 ∨ n = 128 ∨ n = 130)
theorem kn_t {n : Int} (h : n = 0 ∨ n = 1 ∨ n = 2 ∨ n = 3 ∨ n = 4 ∨ n = 5 ∨ n = 6 ∨ n = 7 ∨ n = 8 ∨ n = 9 ∨ n = 10 ∨ n = 11 ∨ n = 14 ∨ n = 15 ∨ n = 193 ∨ n = 128 ∨ n = 130) : knB n = true := decide_eq_true h
theorem kn_f {n : Int} (h : ¬ (n = 0 ∨ n = 1 ∨ n = 2 ∨ n = 3 ∨ n = 4 ∨ n = 5 ∨ n = 6 ∨ n = 7 ∨ n = 8 ∨ n = 9 ∨ n = 10 ∨ n = 11 ∨ n = 14 ∨ n = 15 ∨ n = 193 ∨ n = 128 ∨ n = 130)) : knB n = false := decide_eq_false h
theorem known_any (n : Int) (w : World) : Calls Try.prog 47 #[.int .i64 n] w fun e w' => e = .returned (.bool (knB n)) ∧ Below w.heap.size w w' := by
  go_enter Try.func47, Try.ntmps47
  go_wp2
  all_goals
    go_ret
    refine ⟨ret_bool ?_, Below.refl _ _⟩
    simp only [beq_iff_eq, beq_eq_false_iff_ne, ne_eq] at *
    first | exact (kn_t (by omega)).symm | exact (kn_f (by omega)).symm
theorem kind_any (n : Int) (w : World) : Calls Try.prog 48 #[.int .i64 n] w fun e w' => (∃ k, e = .returned (.int .i64 k) ∧ (k != 20) = knB n) ∧ Below w.heap.size w w' := by
  go_enter Try.func48, Try.ntmps48
  go_wp2
  all_goals
    go_ret
    refine ⟨⟨_, rfl, ?_⟩, Below.refl _ _⟩
    simp only [beq_iff_eq, beq_eq_false_iff_ne, ne_eq] at *
    first | exact (bne_iff_ne.2 (by omega)).trans (kn_t (by omega)).symm | exact Eq.trans (by simp) (kn_f (by omega)).symm
end Go.Proofs.Ytlpklnjnfeodaaa.chk
