/- Layer 16: numbers that go round, told by how far they are behind one; parts in memory. -/
import Derived.Test.YthddacgdmngfhaaGapB
import Derived.Test.YthddacgdmngfhaaKitR
import Derived.Test.YthddacgdmngfhaaKitF
import Derived.Test.YthddacgdmngfhaaGapM
namespace Go.Proofs.Ythddacgdmngfhaa.gap
open Go.Sort (grow)
open Go.ChangeShapes Go.WideShapes Go.ChangeAt Go.RowKit kit
set_option maxRecDepth 100000

theorem ret_int {k : IntKind} {a b : Int} (h : a = b) : Ending.returned (.int k a) = .returned (.int k b) := by rw [h]
theorem ret_bool {a b : Bool} (h : a = b) : Ending.returned (.bool a) = .returned (.bool b) := by rw [h]
def stp (a b : Int) : Int := (b - a + 4294967296) % 4294967296
def lessB (a b : Int) : Bool := decide (0 < stp a b ∧ stp a b < 2147483648)
def leqB (a b : Int) : Bool := decide (stp a b < 2147483648)
theorem less_any (a b : Int) (w : World) (ha0 : 0 ≤ a) (ha : a ≤ 4294967295) (hb0 : 0 ≤ b) (hb : b ≤ 4294967295) :
    Calls Try.prog 153 #[.int .u32 a, .int .u32 b] w fun e w' => e = .returned (.bool (lessB a b)) ∧ w = w' := by
  go_enter Try.func153, Try.ntmps153
  go_wp2
  all_goals (go_ret; refine ⟨?_, rfl⟩)
  · subst a; exact ret_bool (by unfold lessB stp; rw [eq_comm, decide_eq_false_iff_not]; omega)
  · exact ret_bool (by unfold lessB stp; rw [Bool.eq_iff_iff]; simp; omega)
theorem leq_any (a b : Int) (w : World) (ha0 : 0 ≤ a) (ha : a ≤ 4294967295) (hb0 : 0 ≤ b) (hb : b ≤ 4294967295) :
    Calls Try.prog 151 #[.int .u32 a, .int .u32 b] w fun e w' => e = .returned (.bool (leqB a b)) ∧ w = w' := by
  go_enter Try.func151, Try.ntmps151
  go_wp2_with (go_at_call 153; refine (less_any _ _ _ (by omega) (by omega) (by omega) (by omega)).mono ?_; rintro e w' ⟨rfl, rfl⟩)
  all_goals (go_ret; refine ⟨?_, rfl⟩)
  · subst a; exact ret_bool (by unfold leqB stp; rw [eq_comm, decide_eq_true_iff]; omega)
  · exact ret_bool (by unfold leqB lessB stp; rw [Bool.eq_iff_iff]; simp; omega)
def diffV (a b : Int) : Int := if (a - b) % 4294967296 ≤ 2147483648 then (a - b) % 4294967296 else (a - b) % 4294967296 - 4294967296
theorem diff_any (a b : Int) (w : World) (ha0 : 0 ≤ a) (ha : a ≤ 4294967295) (hb0 : 0 ≤ b) (hb : b ≤ 4294967295) :
    Calls Try.prog 96 #[.int .u32 a, .int .u32 b] w fun e w' => e = .returned (.int .i64 (diffV a b)) ∧ w = w' := by
  go_enter Try.func96, Try.ntmps96
  go_wp2
  all_goals (go_ret; refine ⟨ret_int ?_, rfl⟩; unfold diffV)
  · rw [if_neg (by omega)]
  · rw [if_pos (by omega)]
theorem between_any (a n b : Int) (w : World) (ha0 : 0 ≤ a) (ha : a ≤ 4294967295) (hn0 : 0 ≤ n) (hn : n ≤ 4294967295) (hb0 : 0 ≤ b) (hb : b ≤ 4294967295) :
    Calls Try.prog 99 #[.int .u32 a, .int .u32 n, .int .u32 b] w fun e w' => e = .returned (.bool (leqB a n && leqB n b)) ∧ w = w' := by
  go_enter Try.func99, Try.ntmps99
  go_wp2_with (go_at_call 151; refine (leq_any _ _ _ (by omega) (by omega) (by omega) (by omega)).mono ?_; rintro e w' ⟨rfl, rfl⟩)
  all_goals (go_ret; refine ⟨ret_bool ?_, rfl⟩; simp [*])
/-- So far behind a number. -/
def ab (C y : Nat) : Int := (((C + y) % 4294967296 : Nat) : Int)
theorem ab_lo (C y : Nat) : 0 ≤ ab C y := by unfold ab; omega
theorem ab_hi (C y : Nat) : ab C y ≤ 4294967295 := by unfold ab; omega
theorem ab_less {C y z : Nat} (hy : y < 536870912) (hz : z < 536870912) : lessB (ab C y) (ab C z) = decide (y < z) := by
  unfold lessB stp ab
  rw [Bool.eq_iff_iff, decide_eq_true_iff, decide_eq_true_iff]
  omega
theorem ab_leq {C y z : Nat} (hy : y < 536870912) (hz : z < 536870912) : leqB (ab C y) (ab C z) = decide (y ≤ z) := by
  unfold leqB stp ab
  rw [Bool.eq_iff_iff, decide_eq_true_iff, decide_eq_true_iff]
  omega
theorem ab_diff {C y z : Nat} (hy : y < 536870912) (hz : z < 536870912) : diffV (ab C y) (ab C z) = (y : Int) - z := by
  unfold diffV ab
  split <;> omega
/-- Parts in memory. -/
def cellsA (C : Nat) : List (Nat × Nat) → List Value
  | [] => []
  | p :: r => .int .u32 (ab C p.1) :: .int .u32 (ab C p.2) :: cellsA C r
theorem cellsA_len (C : Nat) : ∀ P, (cellsA C P).length = P.length * 2
  | [] => rfl
  | p :: r => by simp only [cellsA, List.length_cons, cellsA_len C r]; omega
theorem cellsA_append (C : Nat) : ∀ P Q, cellsA C (P ++ Q) = cellsA C P ++ cellsA C Q
  | [], _ => rfl
  | p :: r, Q => by simp only [List.cons_append, cellsA, cellsA_append C r Q]
theorem cellsA_get {C : Nat} {p : Nat × Nat} : ∀ {P : List (Nat × Nat)} {k : Nat}, P[k]? = some p → ∀ j, j < 2 → (prt (ab C p.1) (ab C p.2))[j]? = (cellsA C P)[k * 2 + j]?
  | [], _, h, _, _ => by simp at h
  | q :: r, 0, h, j, hj => by
    obtain rfl : q = p := by simpa using h
    obtain rfl | rfl : j = 0 ∨ j = 1 := by omega
    · rfl
    · rfl
  | q :: r, k + 1, h, j, hj => by
    rw [cellsA_get (P := r) (k := k) (by simpa using h) j hj, show (k + 1) * 2 + j = (k * 2 + j) + 1 + 1 by omega]
    rfl
theorem cellsA_one (C : Nat) : ∀ P, ∀ u ∈ cellsA C P, u.oneCell' = true
  | [], u, h => by cases h
  | p :: r, u, h => by
    simp only [cellsA, List.mem_cons] at h
    rcases h with rfl | rfl | h
    · rfl
    · rfl
    · exact cellsA_one C r u h
theorem cellsA_take (C : Nat) : ∀ (P : List (Nat × Nat)) (k : Nat), (cellsA C P).take (k * 2) = cellsA C (P.take k)
  | [], k => by simp [cellsA]
  | p :: r, 0 => rfl
  | p :: r, k + 1 => by
    rw [show (k + 1) * 2 = k * 2 + 1 + 1 by omega]
    simp only [cellsA, List.take_succ_cons, cellsA_take C r k]
theorem cellsA_drop (C : Nat) : ∀ (P : List (Nat × Nat)) (k : Nat), (cellsA C P).drop (k * 2) = cellsA C (P.drop k)
  | [], k => by simp [cellsA]
  | p :: r, 0 => rfl
  | p :: r, k + 1 => by
    rw [show (k + 1) * 2 = k * 2 + 1 + 1 by omega]
    simp only [cellsA, List.drop_succ_cons, cellsA_drop C r k]
theorem szP (a b : Int) : (Try.prog.info? 193).map (·.size) = some (prt a b).size := by show _ = some 2; kernel_rfl
/-- Nothing is too far. -/
def Bd (P : List (Nat × Nat)) : Prop := ∀ p ∈ P, p.1 < 536870912 ∧ p.2 < 536870912
/-- The first part of which something holds. -/
def Fst (P : List (Nat × Nat)) (pr : Nat × Nat → Bool) (r : Int) : Prop := (r = -1 ∧ ∀ p ∈ P, pr p = false) ∨ ∃ k : Nat, r = k ∧ k < P.length ∧ (∀ p, P[k]? = some p → pr p = true) ∧ ∀ j p, j < k → P[j]? = some p → pr p = false
theorem clL {C : Nat} (f t y ob : Nat) (hf : f < 536870912) (ht : t < 536870912) (hy : y < 536870912) (w : World) (B : Blk w ob 28 #[.int .u32 (ab C y)]) :
    Calls Try.prog 98 #[.agg (prt (ab C f) (ab C t)), .pointer (some ⟨ob, 0, none⟩)] w fun e w' => e = .returned (.bool (decide (f ≤ y) && decide (y ≤ t))) ∧ Below w.heap.size w w' := by
  have hb := fun W => between_any (ab C f) (ab C y) (ab C t) W (ab_lo _ _) (ab_hi _ _) (ab_lo _ _) (ab_hi _ _) (ab_lo _ _) (ab_hi _ _)
  rw [ab_leq hf hy, ab_leq hy ht] at hb
  have al := (Below.refl w.heap.size w).alloc (Nat.le_refl _) (.cells (prt (ab C f) (ab C t)) 193)
  have B1 := B.below al B.lt
  have c0 : (w.alloc (.cells (prt (ab C f) (ab C t)) 193)).cell? ⟨ob, 0, none⟩ = some (.int .u32 (ab C y)) := B1.cell 0
  generalize ab C f = a1 at *
  generalize ab C t = a2 at *
  generalize ab C y = a3 at *
  go_enter Try.func98, Try.ntmps98
  go_wp2_with fail
  refine (hb _).mono ?_
  rintro e w' ⟨rfl, rfl⟩
  go_wp2_with fail
  go_ret
  exact ⟨rfl, al⟩
theorem clJ {C : Nat} (f t y ob : Nat) (hf : f < 536870912) (hy : y < 536870912) (w : World) (B : Blk w ob 28 #[.int .u32 (ab C y)]) :
    Calls Try.prog 152 #[.agg (prt (ab C f) (ab C t)), .pointer (some ⟨ob, 0, none⟩)] w fun e w' => e = .returned (.bool (decide (y < f))) ∧ Below w.heap.size w w' := by
  have hb := fun W => less_any (ab C y) (ab C f) W (ab_lo _ _) (ab_hi _ _) (ab_lo _ _) (ab_hi _ _)
  rw [ab_less hy hf] at hb
  have al := (Below.refl w.heap.size w).alloc (Nat.le_refl _) (.cells (prt (ab C f) (ab C t)) 193)
  have B1 := B.below al B.lt
  have c0 : (w.alloc (.cells (prt (ab C f) (ab C t)) 193)).cell? ⟨ob, 0, none⟩ = some (.int .u32 (ab C y)) := B1.cell 0
  generalize ab C f = a1 at *
  generalize ab C t = a2 at *
  generalize ab C y = a3 at *
  go_enter Try.func152, Try.ntmps152
  go_wp2_with fail
  refine (hb _).mono ?_
  rintro e w' ⟨rfl, rfl⟩
  go_wp2_with fail
  go_ret
  exact ⟨rfl, al⟩
end Go.Proofs.Ythddacgdmngfhaa.gap
