/- Layer 15: of no paths nothing comes. -/
import Derived.Test.YthddacgdmngfhaaRows
import Derived.Test.YthddacgdmngfhaaKitB
import Derived.Outline
import Derived.OwnWalk
import Derived.BigQuiet
namespace Go.Proofs.Ythddacgdmngfhaa.pat
open Go.ChangeShapes Go.WideShapes Go.ChangeAt Go.RowKit kit
set_option maxRecDepth 100000

/-- A path's cells: addresses, state, errors, the time that is waited, what is known of it, room, the last bytes. -/
abbrev pt (a b s e : Int) (r : Array Value) (c t p f k : Int) (h m : Int) : Array Value := #[.int .u32 a, .int .u32 b, .int .i64 s, .int .i64 e] ++ r ++ #[.int .i64 c, .int .i64 t, .int .i64 p, .int .i64 f, .int .i64 k, .int .u32 h, .int .i64 m]
theorem all_nil (w : World) : Calls Try.prog 121 #[.pointer none] w fun e w' => e = .returned (.slice none 0 0) ∧ w = w' := by
  go_enter Try.func121, Try.ntmps121
  go_wp2
  go_ret
  exact ⟨rfl, rfl⟩
theorem many_nil (w : World) : Calls Try.prog 114 #[.pointer none] w fun e w' => e = .returned (.int .i64 0) ∧ w = w' := by
  go_enter Try.func114, Try.ntmps114
  go_wp2
  go_ret
  exact ⟨rfl, rfl⟩
theorem first_nil (w : World) : Calls Try.prog 122 #[.pointer none] w fun e w' => e = .returned (.int .i64 (-1)) ∧ w = w' := by
  go_enter Try.func122, Try.ntmps122
  go_wp2_with fail
  refine (many_nil _).mono ?_
  rintro e w1 ⟨rfl, rfl⟩
  go_wp2
  go_ret
  exact ⟨rfl, rfl⟩
theorem find_nil (v : Value) (w : World) : Calls Try.prog 165 #[.pointer none, v] w fun e w' => e = .returned (.int .i64 (-1)) ∧ w = w' := by
  go_enter Try.func165, Try.ntmps165
  go_wp2
  go_ret
  exact ⟨rfl, rfl⟩
theorem Find_nil (a b : Int) (w : World) : Calls Try.prog 113 #[.pointer none, .int .u32 a, .int .u32 b] w fun e w' => e = .returned (.int .i64 (-1)) ∧ Below w.heap.size w w' := by
  go_enter Try.func113, Try.ntmps113
  go_wp2_with fail
  refine (find_nil _ _).mono ?_
  rintro e w1 ⟨rfl, rfl⟩
  go_wp2
  go_ret
  exact ⟨rfl, ((Below.refl _ _).alloc (Nat.le_refl _) _).alloc (by simp) _⟩
theorem Peer_nil (a : Int) (w : World) : Calls Try.prog 124 #[.pointer none, .int .u32 a] w fun e w' => e = .returned (.int .i64 (-1)) ∧ Below w.heap.size w w' := by
  go_enter Try.func124, Try.ntmps124
  go_wp2_with fail
  refine (find_nil _ _).mono ?_
  rintro e w1 ⟨rfl, rfl⟩
  go_wp2
  go_ret
  exact ⟨rfl, (Below.refl _ _).alloc (Nat.le_refl _) _⟩
theorem Alive_nil (w : World) : Calls Try.prog 126 #[.pointer none] w fun e w' => e = .returned (.bool false) ∧ w = w' := by
  go_enter Try.func126, Try.ntmps126
  go_wp2_with fail
  refine (find_nil _ _).mono ?_
  rintro e w1 ⟨rfl, rfl⟩
  go_wp2
  go_ret
  exact ⟨rfl, rfl⟩
theorem Add_nil (a b : Int) (w : World) : Calls Try.prog 68 #[.pointer none, .int .u32 a, .int .u32 b] w fun e w' => e = .returned (.int .i64 (-1)) ∧ Below w.heap.size w w' := by
  go_enter Try.func68, Try.ntmps68
  go_wp2_with fail
  refine (Find_nil _ _ _).mono ?_
  rintro e w1 ⟨rfl, hb⟩
  go_wp2
  go_ret
  exact ⟨rfl, hb⟩
theorem has_nil (n : Int) (w : World) : Calls Try.prog 119 #[.pointer none, .int .i64 n] w fun e w' => e = .returned (.bool false) ∧ w = w' := by
  by_cases h : 0 ≤ n
  · have h0 : decide (0 ≤ n) = true := decide_eq_true h
    have h1 : decide (n < 0) = false := decide_eq_false (by omega)
    go_enter Try.func119, Try.ntmps119
    go_wp2_with fail
    refine (many_nil _).mono ?_
    rintro e w1 ⟨rfl, rfl⟩
    go_wp2
    go_ret
    exact ⟨rfl, rfl⟩
  · have h0 : decide (0 ≤ n) = false := decide_eq_false h
    have h1 : decide (n < 0) = true := decide_eq_true (by omega)
    go_enter Try.func119, Try.ntmps119
    go_wp2
    go_ret
    exact ⟨rfl, rfl⟩
theorem Choose_nil (n : Int) (w : World) : Calls Try.prog 71 #[.pointer none, .int .i64 n] w fun e w' => e = .returned (.bool false) ∧ w = w' := by
  go_enter Try.func71, Try.ntmps71
  go_wp2_with fail
  refine (has_nil _ _).mono ?_
  rintro e w1 ⟨rfl, rfl⟩
  go_wp2
  go_ret
  exact ⟨rfl, rfl⟩
theorem Other_nil (n : Int) (w : World) : Calls Try.prog 125 #[.pointer none, .int .i64 n] w fun e w' => e = .returned (.int .i64 (-1)) ∧ w = w' := by
  go_enter Try.func125, Try.ntmps125
  go_wp2
  go_ret
  exact ⟨rfl, rfl⟩
theorem Drop_nil (a b n : Int) (w : World) : Calls Try.prog 70 #[.pointer none, .int .u32 a, .int .u32 b, .int .i64 n] w fun e w' => e = .returned (.slice none 0 0) ∧ Below w.heap.size w w' := by
  go_enter Try.func70, Try.ntmps70
  go_wp2_with fail
  refine (many_nil _).mono ?_
  rintro e w1 ⟨rfl, rfl⟩
  go_wp2
  go_ret
  exact ⟨rfl, by repeat (first | exact Below.refl _ _ | (refine Below.alloc ?_ (by simp; try omega) _))⟩
end Go.Proofs.Ythddacgdmngfhaa.pat
