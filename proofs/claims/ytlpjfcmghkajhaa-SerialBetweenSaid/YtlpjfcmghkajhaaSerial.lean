/- Layer 1's functions, each by a contract: what they answer of numbers within their kinds, the world as it was. -/
import Derived.Test.YtlpjfcmghkajhaaRows
import Derived.WalkKit
import Derived.ProofKit
import Derived.OpenShut
import Derived.Lib.Hide
namespace Go.Proofs.Ytlpjfcmghkajhaa.ser
open Go.ChangeShapes Go.WideShapes Go.ChangeAt Go.RowKit

theorem ret_int {k : IntKind} {a b : Int} (h : a = b) : Ending.returned (.int k a) = .returned (.int k b) := by rw [h]
theorem ret_bool {a b : Bool} (h : a = b) : Ending.returned (.bool a) = .returned (.bool b) := by rw [h]

def steps (a b : Int) : Int := (b - a + 4294967296) % 4294967296
theorem steps_bd (a b : Int) : 0 ≤ steps a b ∧ steps a b ≤ 4294967295 := by unfold steps; omega

theorem steps_any (a b : Int) (w : World) (ha0 : 0 ≤ a) (ha : a ≤ 4294967295) (hb0 : 0 ≤ b) (hb : b ≤ 4294967295) :
    Calls Try.prog 10 #[.int .u32 a, .int .u32 b] w fun e w' => e = .returned (.int .i64 (steps a b)) ∧ w = w' := by
  go_enter Try.func10, Try.ntmps10
  go_wp2
  go_ret
  exact ⟨rfl, rfl⟩

/-- ahead: b is fewer than half of all steps behind a, and not a -/
def lessB (a b : Int) : Bool := decide (0 < steps a b ∧ steps a b < 2147483648)
def leqB (a b : Int) : Bool := decide (steps a b < 2147483648)

theorem less_any (a b : Int) (w : World) (ha0 : 0 ≤ a) (ha : a ≤ 4294967295) (hb0 : 0 ≤ b) (hb : b ≤ 4294967295) :
    Calls Try.prog 12 #[.int .u32 a, .int .u32 b] w fun e w' => e = .returned (.bool (lessB a b)) ∧ w = w' := by
  go_enter Try.func12, Try.ntmps12
  go_wp2
  all_goals (go_ret; refine ⟨?_, rfl⟩)
  · subst a; exact ret_bool (by unfold lessB steps; rw [eq_comm, decide_eq_false_iff_not]; omega)
  · exact ret_bool (by unfold lessB steps; rw [Bool.eq_iff_iff]; simp; omega)

theorem leq_any (a b : Int) (w : World) (ha0 : 0 ≤ a) (ha : a ≤ 4294967295) (hb0 : 0 ≤ b) (hb : b ≤ 4294967295) :
    Calls Try.prog 13 #[.int .u32 a, .int .u32 b] w fun e w' => e = .returned (.bool (leqB a b)) ∧ w = w' := by
  go_enter Try.func13, Try.ntmps13
  go_wp2_with (go_at_call 12; refine (less_any _ _ _ (by omega) (by omega) (by omega) (by omega)).mono ?_; rintro e w' ⟨rfl, rfl⟩)
  all_goals (go_ret; refine ⟨?_, rfl⟩)
  · subst a; exact ret_bool (by unfold leqB steps; rw [eq_comm, decide_eq_true_iff]; omega)
  · exact ret_bool (by unfold leqB lessB steps; rw [Bool.eq_iff_iff]; simp; omega)

def diffV (a b : Int) : Int := if (a - b) % 4294967296 ≤ 2147483648 then (a - b) % 4294967296 else (a - b) % 4294967296 - 4294967296

theorem diff_any (a b : Int) (w : World) (ha0 : 0 ≤ a) (ha : a ≤ 4294967295) (hb0 : 0 ≤ b) (hb : b ≤ 4294967295) :
    Calls Try.prog 14 #[.int .u32 a, .int .u32 b] w fun e w' => e = .returned (.int .i64 (diffV a b)) ∧ w = w' := by
  go_enter Try.func14, Try.ntmps14
  go_wp2
  all_goals (go_ret; refine ⟨ret_int ?_, rfl⟩; unfold diffV)
  · rw [if_neg (by omega)]
  · rw [if_pos (by omega)]

theorem awake_any (w : World) : Calls Try.prog 11 #[] w fun e w' => e = .returned (.bool true) ∧ w = w' := by
  go_enter Try.func11, Try.ntmps11
  go_wp2
  go_ret
  exact ⟨rfl, rfl⟩

theorem between_any (a n b : Int) (w : World) (ha0 : 0 ≤ a) (ha : a ≤ 4294967295) (hn0 : 0 ≤ n) (hn : n ≤ 4294967295) (hb0 : 0 ≤ b) (hb : b ≤ 4294967295) :
    Calls Try.prog 15 #[.int .u32 a, .int .u32 n, .int .u32 b] w fun e w' => e = .returned (.bool (leqB a n && leqB n b)) ∧ w = w' := by
  go_enter Try.func15, Try.ntmps15
  go_wp2_with (go_at_call 13; refine (leq_any _ _ _ (by omega) (by omega) (by omega) (by omega)).mono ?_; rintro e w' ⟨rfl, rfl⟩)
  all_goals (go_ret; refine ⟨ret_bool ?_, rfl⟩; simp [*])

def maxV (a b : Int) : Int := if lessB a b = true then b else a

theorem max_any (a b : Int) (w : World) (ha0 : 0 ≤ a) (ha : a ≤ 4294967295) (hb0 : 0 ≤ b) (hb : b ≤ 4294967295) :
    Calls Try.prog 16 #[.int .u32 a, .int .u32 b] w fun e w' => e = .returned (.int .u32 (maxV a b)) ∧ w = w' := by
  go_enter Try.func16, Try.ntmps16
  go_wp2_with (go_at_call 12; refine (less_any _ _ _ (by omega) (by omega) (by omega) (by omega)).mono ?_; rintro e w' ⟨rfl, rfl⟩)
  all_goals (go_ret; refine ⟨ret_int ?_, rfl⟩; unfold maxV; simp [*])

def less16B (a b : Int) : Bool := decide (0 < (b - a + 65536) % 65536 ∧ (b - a + 65536) % 65536 < 32768)

theorem less16_any (a b : Int) (w : World) (ha0 : 0 ≤ a) (ha : a ≤ 65535) (hb0 : 0 ≤ b) (hb : b ≤ 65535) :
    Calls Try.prog 17 #[.int .u16 a, .int .u16 b] w fun e w' => e = .returned (.bool (less16B a b)) ∧ w = w' := by
  go_enter Try.func17, Try.ntmps17
  go_wp2
  all_goals (go_ret; refine ⟨?_, rfl⟩)
  · subst a; exact ret_bool (by unfold less16B; rw [eq_comm, decide_eq_false_iff_not]; omega)
  · exact ret_bool (by unfold less16B; rw [Bool.eq_iff_iff]; simp [IntKind.wrap, IntKind.bits, IntKind.signed]; omega)

theorem less_walk (a b : Int) (w : World) (ha0 : 0 ≤ a) (ha : a ≤ 4294967295) (hb0 : 0 ≤ b) (hb : b ≤ 4294967295) :
    Calls Try.prog 3 #[.int .u32 a, .int .u32 b] w fun e w' => e = .returned (.bool true) ∧ w = w' := by
  have hs := steps_bd a b
  by_cases c0 : steps a b = 0
  · have hl : lessB a b = false := by unfold lessB; rw [decide_eq_false_iff_not]; omega
    have hq : leqB a b = true := by unfold leqB; rw [decide_eq_true_iff]; omega
    go_enter Try.func3, Try.ntmps3
    go_wp2_with (first | (go_at_call 10; refine (steps_any _ _ _ (by omega) (by omega) (by omega) (by omega)).mono ?_; rintro e w' ⟨rfl, rfl⟩) | (go_at_call 11; refine (awake_any _).mono ?_; rintro e w' ⟨rfl, rfl⟩) | (go_at_call 12; refine (less_any _ _ _ (by omega) (by omega) (by omega) (by omega)).mono ?_; rintro e w' ⟨rfl, rfl⟩) | (go_at_call 13; refine (leq_any _ _ _ (by omega) (by omega) (by omega) (by omega)).mono ?_; rintro e w' ⟨rfl, rfl⟩))
    go_ret
    exact ⟨rfl, rfl⟩
  · by_cases c1 : steps a b < 2147483648
    · have hl : lessB a b = true := by unfold lessB; rw [decide_eq_true_iff]; omega
      have hq : leqB a b = true := by unfold leqB; rw [decide_eq_true_iff]; omega
      go_enter Try.func3, Try.ntmps3
      go_wp2_with (first | (go_at_call 10; refine (steps_any _ _ _ (by omega) (by omega) (by omega) (by omega)).mono ?_; rintro e w' ⟨rfl, rfl⟩) | (go_at_call 11; refine (awake_any _).mono ?_; rintro e w' ⟨rfl, rfl⟩) | (go_at_call 12; refine (less_any _ _ _ (by omega) (by omega) (by omega) (by omega)).mono ?_; rintro e w' ⟨rfl, rfl⟩) | (go_at_call 13; refine (leq_any _ _ _ (by omega) (by omega) (by omega) (by omega)).mono ?_; rintro e w' ⟨rfl, rfl⟩))
      go_ret
      exact ⟨rfl, rfl⟩
    · have hl : lessB a b = false := by unfold lessB; rw [decide_eq_false_iff_not]; omega
      have hq : leqB a b = false := by unfold leqB; rw [decide_eq_false_iff_not]; omega
      go_enter Try.func3, Try.ntmps3
      go_wp2_with (first | (go_at_call 10; refine (steps_any _ _ _ (by omega) (by omega) (by omega) (by omega)).mono ?_; rintro e w' ⟨rfl, rfl⟩) | (go_at_call 11; refine (awake_any _).mono ?_; rintro e w' ⟨rfl, rfl⟩) | (go_at_call 12; refine (less_any _ _ _ (by omega) (by omega) (by omega) (by omega)).mono ?_; rintro e w' ⟨rfl, rfl⟩) | (go_at_call 13; refine (leq_any _ _ _ (by omega) (by omega) (by omega) (by omega)).mono ?_; rintro e w' ⟨rfl, rfl⟩))
      go_ret
      exact ⟨ret_bool (by simp; omega), rfl⟩

theorem diff_bd (a b : Int) : -2147483647 ≤ diffV a b ∧ diffV a b ≤ 2147483648 := by unfold diffV; split <;> omega

theorem diff_walk (a b : Int) (w : World) (ha0 : 0 ≤ a) (ha : a ≤ 4294967295) (hb0 : 0 ≤ b) (hb : b ≤ 4294967295) :
    Calls Try.prog 4 #[.int .u32 a, .int .u32 b] w fun e w' => e = .returned (.bool true) ∧ w = w' := by
  have hs := steps_bd a b
  have hs2 := steps_bd b a
  have hd := diff_bd a b
  go_enter Try.func4, Try.ntmps4
  go_wp2_with (first | (go_at_call 10; refine (steps_any _ _ _ (by omega) (by omega) (by omega) (by omega)).mono ?_; rintro e w' ⟨rfl, rfl⟩) | (go_at_call 11; refine (awake_any _).mono ?_; rintro e w' ⟨rfl, rfl⟩) | (go_at_call 14; refine (diff_any _ _ _ (by omega) (by omega) (by omega) (by omega)).mono ?_; rintro e w' ⟨rfl, rfl⟩))
  all_goals (go_ret; refine ⟨ret_bool ?_, rfl⟩)
  · rw [beq_iff_eq]; unfold steps; omega
  · have h : ¬ diffV a b = -steps a b := by assumption
    exact absurd (by unfold diffV steps at *; split <;> omega) h
  · rw [beq_iff_eq]; unfold steps; omega
  · have h : ¬ diffV a b = steps b a := by assumption
    exact absurd (by unfold diffV steps at *; split <;> omega) h
  · rw [beq_iff_eq]; unfold steps at *; omega
  · have h : ¬ diffV a b = steps b a := by assumption
    exact absurd (by unfold diffV steps at *; split <;> omega) h

theorem between_walk (a n b : Int) (w : World) (ha0 : 0 ≤ a) (ha : a ≤ 4294967295) (hn0 : 0 ≤ n) (hn : n ≤ 4294967295) (hb0 : 0 ≤ b) (hb : b ≤ 4294967295) :
    Calls Try.prog 5 #[.int .u32 a, .int .u32 n, .int .u32 b] w fun e w' => e = .returned (.bool true) ∧ w = w' := by
  go_enter Try.func5, Try.ntmps5
  go_wp2_with (first | (go_at_call 10; refine (steps_any _ _ _ (by omega) (by omega) (by omega) (by omega)).mono ?_; rintro e w' ⟨rfl, rfl⟩) | (go_at_call 11; refine (awake_any _).mono ?_; rintro e w' ⟨rfl, rfl⟩) | (go_at_call 15; refine (between_any _ _ _ _ (by omega) (by omega) (by omega) (by omega) (by omega) (by omega)).mono ?_; rintro e w' ⟨rfl, rfl⟩))
  all_goals (go_ret; refine ⟨ret_bool ?_, rfl⟩)
  · have h : steps a n < 2147483648 := by assumption
    unfold leqB; simp [h]
  · have h : 2147483648 ≤ steps a n := by assumption
    unfold leqB; simp [h]
end Go.Proofs.Ytlpjfcmghkajhaa.ser
