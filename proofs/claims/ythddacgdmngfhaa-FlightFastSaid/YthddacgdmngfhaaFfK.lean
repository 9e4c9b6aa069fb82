/- Layer 21: a chunk that three sacks miss; the statement walked. -/
import Derived.Test.YthddacgdmngfhaaFfJ
namespace Go.Proofs.Ythddacgdmngfhaa.fli
open Go.Sort (grow)
open Go.ChangeShapes Go.WideShapes Go.ChangeAt Go.RowKit kit
set_option maxRecDepth 100000

/-- The chunks: the first one, missed so often; those that came; the others. -/
def st (c : Int) (x0 : Sx) (k : Nat) : Nat → Sx := fun i => if i = 0 then x0 else ⟨nx c i, 1, 0, 1, 0, false, decide (i < k), false⟩
def it (c : Int) (i : Nat) : Sx := ⟨nx c i, 1, 0, 1, 0, false, false, false⟩
theorem st_upd (c : Int) (n : Nat) : upd (fun i => it c i) n (it c n) = fun i => it c i := by funext i; unfold upd; split <;> simp_all
theorem st_it (c : Int) : (fun i => it c i) = st c (it c 0) 1 := by
  funext i
  unfold st
  by_cases e : i = 0
  · subst e; rw [if_pos rfl]
  · rw [if_neg e, decide_eq_false (by omega)]; rfl
theorem st_sack (c : Int) (x0 : Sx) {k h n : Nat} (hk : k ≤ h) (hh : h ≤ n) : ∀ i, i < n → upd (gpd (st c x0 k) h n) 0 (ms (st c x0 k 0)) i = st c (ms x0) h i := by
  intro i hi
  unfold upd
  by_cases e : i = 0
  · subst e; rw [if_pos rfl]; unfold st; rw [if_pos rfl, if_pos rfl]
  · rw [if_neg e]
    unfold gpd
    by_cases e2 : 1 ≤ i ∧ i < h ∧ i < n
    · rw [if_pos e2]
      unfold st cm
      rw [if_neg e, if_neg e, decide_eq_true (show i < h by omega)]
    · rw [if_neg e2]
      unfold st
      rw [if_neg e, if_neg e, decide_eq_false (show ¬ i < k by omega), decide_eq_false (show ¬ i < h by omega)]
theorem st_items (c : Int) (x0 : Sx) (k : Nat) : ∀ i, 1 ≤ i → (st c x0 k i).p = 1 ∧ (st c x0 k i).a = 0 ∧ (st c x0 k i).m = 1 := by
  intro i hi
  unfold st
  rw [if_neg (by omega)]
  exact ⟨rfl, rfl, rfl⟩
theorem st_zero (c : Int) (x0 : Sx) (k : Nat) : st c x0 k 0 = x0 := by unfold st; rw [if_pos rfl]
theorem st_none (c : Int) (x0 : Sx) (k : Nat) (h : x0.ag = false) : ∀ i, (st c x0 k i).ag = false := by
  intro i
  unfold st
  split
  · exact h
  · rfl
/-- The first chunk behind so many sacks, 0 to 3; sent again; missed once more. -/
def x0 (c : Int) : Nat → Sx
  | 0 => it c 0
  | n + 1 => ms (x0 c n)
theorem x1_ (c : Int) : x0 c 1 = ⟨nx c 0, 1, 0, 1, 1, false, false, false⟩ := rfl
theorem x2_ (c : Int) : x0 c 2 = ⟨nx c 0, 1, 0, 1, 2, false, false, false⟩ := rfl
theorem x3_ (c : Int) : x0 c 3 = ⟨nx c 0, 1, 0, 1, 3, true, false, true⟩ := rfl
theorem x4_ (c : Int) : ms (sg (x0 c 3)) = ⟨nx c 0, 1, 6, 2, 4, false, false, true⟩ := rfl
end Go.Proofs.Ythddacgdmngfhaa.fli
