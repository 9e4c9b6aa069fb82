/- What is done with what is not known (strange.Chunk, strange.Param) is told by the two highest bits of its type, for every type. No further condition. -/
import Derived.Test.YtdjdgccomefoaaaRows
import Derived.Test.YtdjdgccomefoaaaKit
namespace Go.Proofs.Ytdjdgccomefoaaa.small
open Go.ChangeShapes Go.WideShapes Go.ChangeAt Go.RowKit kit

def ruleV : Nat → Int
  | 0 => 1
  | 1 => 3
  | 2 => 0
  | _ => 2

theorem bit_at (n k : Nat) (hn : n < 65536) (hk : k < 16) : bits .and .i64 (n : Int) ((2 ^ k : Nat) : Int) = if n / 2 ^ k % 2 = 1 then ((2 ^ k : Nat) : Int) else 0 := by
  have : 2 ^ k ≤ 2 ^ 15 := Nat.pow_le_pow_right (by omega) (by omega)
  rw [i64_and_nat n (2 ^ k) (by omega) (by omega), and_pow]
  split <;> simp

theorem of8 (n : Nat) (hn : n < 256) (w : World) : Calls Try.prog 167 #[.int .i64 n, .int .i64 8] w fun e w' => e = .returned (.int .i64 (ruleV (n / 64))) ∧ w = w' := by
  have e7 : bits .and .i64 (n : Int) 128 = if n / 128 % 2 = 1 then 128 else 0 := bit_at n 7 (by omega) (by omega)
  have e6 : bits .and .i64 (n : Int) 64 = if n / 64 % 2 = 1 then 64 else 0 := bit_at n 6 (by omega) (by omega)
  have hq : n / 64 = 0 ∨ n / 64 = 1 ∨ n / 64 = 2 ∨ n / 64 = 3 := by omega
  rcases hq with h | h | h | h
  all_goals
    first | rw [if_neg (by omega)] at e7 | rw [if_pos (by omega)] at e7
    first | rw [if_neg (by omega)] at e6 | rw [if_pos (by omega)] at e6
    rw [h]
    clear h
    go_enter Try.func167, Try.ntmps167
    go_wp2
    go_ret
    exact ⟨rfl, rfl⟩

theorem of16 (n : Nat) (hn : n < 65536) (w : World) : Calls Try.prog 167 #[.int .i64 n, .int .i64 16] w fun e w' => e = .returned (.int .i64 (ruleV (n / 16384))) ∧ w = w' := by
  have e7 : bits .and .i64 (n : Int) 32768 = if n / 32768 % 2 = 1 then 32768 else 0 := bit_at n 15 (by omega) (by omega)
  have e6 : bits .and .i64 (n : Int) 16384 = if n / 16384 % 2 = 1 then 16384 else 0 := bit_at n 14 (by omega) (by omega)
  have hq : n / 16384 = 0 ∨ n / 16384 = 1 ∨ n / 16384 = 2 ∨ n / 16384 = 3 := by omega
  rcases hq with h | h | h | h
  all_goals
    first | rw [if_neg (by omega)] at e7 | rw [if_pos (by omega)] at e7
    first | rw [if_neg (by omega)] at e6 | rw [if_pos (by omega)] at e6
    rw [h]
    clear h
    go_enter Try.func167, Try.ntmps167
    go_wp2
    go_ret
    exact ⟨rfl, rfl⟩

theorem rule_any (k : Nat) (hk : k < 4) (w : World) : Calls Try.prog 51 #[.int .i64 k] w fun e w' => e = .returned (.int .i64 (ruleV k)) ∧ Below w.heap.size w w' := by
  have em : bits .and .i64 (k : Int) 3 = (k : Int) % 4 := i64_mask (k : Int) 2 (by omega)
  have hq : k = 0 ∨ k = 1 ∨ k = 2 ∨ k = 3 := by omega
  rcases hq with rfl | rfl | rfl | rfl
  all_goals
    simp at em
    go_enter Try.func51, Try.ntmps51
    go_wp2
    go_ret
    exact ⟨rfl, (Below.refl _ _).alloc (Nat.le_refl _) _⟩

theorem chunk_any (n : Nat) (hn : n < 256) (w : World) : Calls Try.prog 124 #[.int .i64 n] w fun e w' => e = .returned (.int .i64 (ruleV (n / 64))) ∧ w = w' := by
  have e1 := of8 n hn
  go_enter Try.func124, Try.ntmps124
  go_wp2_with (go_at_call 167; refine (e1 _).mono ?_; rintro e w' ⟨rfl, rfl⟩)
  go_ret
  exact ⟨rfl, rfl⟩

theorem param_any (n : Nat) (hn : n < 65536) (w : World) : Calls Try.prog 122 #[.int .i64 n] w fun e w' => e = .returned (.int .i64 (ruleV (n / 16384))) ∧ w = w' := by
  have e1 := of16 n hn
  go_enter Try.func122, Try.ntmps122
  go_wp2_with (go_at_call 167; refine (e1 _).mono ?_; rintro e w' ⟨rfl, rfl⟩)
  go_ret
  exact ⟨rfl, rfl⟩

theorem awake24 (w : World) : Calls Try.prog 54 #[] w fun e w' => e = .returned (.bool true) ∧ w = w' := by
  have e1 : ∀ w, Calls Try.prog 124 #[.int .i64 128] w fun e w' => e = .returned (.int .i64 0) ∧ w = w' := chunk_any 128 (by omega)
  have e2 : ∀ w, Calls Try.prog 124 #[.int .i64 64] w fun e w' => e = .returned (.int .i64 3) ∧ w = w' := chunk_any 64 (by omega)
  have e3 : ∀ w, Calls Try.prog 122 #[.int .i64 49408] w fun e w' => e = .returned (.int .i64 2) ∧ w = w' := param_any 49408 (by omega)
  go_enter Try.func54, Try.ntmps54
  go_wp2_with (first | (go_at_call 124; (with_reducible refine (e1 _).mono ?_); rintro e w' ⟨rfl, rfl⟩) | (go_at_call 124; (with_reducible refine (e2 _).mono ?_); rintro e w' ⟨rfl, rfl⟩) | (go_at_call 122; (with_reducible refine (e3 _).mono ?_); rintro e w' ⟨rfl, rfl⟩))
  go_ret
  exact ⟨rfl, rfl⟩

end Go.Proofs.Ytdjdgccomefoaaa.small
