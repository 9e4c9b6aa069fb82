/- Layer 32: who has an address: what the document's loops find. -/
import Derived.Test.YthjhiogbnacmdaaToI
namespace Go.Proofs.Ythjhiogbnacmdaa.top
open Go.Sort (grow)
open Go.ChangeShapes Go.WideShapes Go.ChangeAt Go.RowKit kit
set_option maxRecDepth 100000

theorem idxA_snoc {α : Type} {p : α → Bool} {x : α} : ∀ L : List α, idxA p (L ++ [x]) = if idxA p L < 0 then (if p x = true then (L.length : Int) else -1) else idxA p L
  | [] => by
    show (if p x = true then (0 : Int) else if (-1 : Int) < 0 then -1 else -1 + 1) = if (-1 : Int) < 0 then (if p x = true then ((0 : Nat) : Int) else -1) else -1
    by_cases h : p x = true
    · simp [h]
    · simp [h]
  | z :: r => by
    have ih := idxA_snoc (p := p) (x := x) r
    have hge := idxA_ge p r
    rw [List.cons_append]
    unfold idxA
    rw [ih, List.length_cons]
    by_cases hz : p z = true
    · simp [hz]
    · rw [if_neg hz, if_neg hz]
      repeat' split
      all_goals first | omega | contradiction | (exfalso; omega) | (simp_all; done) | (simp_all; omega)
theorem idxA_hit2 {α : Type} {p : α → Bool} {L : List α} (h : 0 ≤ idxA p L) : ∃ y, L[(idxA p L).toNat]? = some y ∧ p y = true := by
  induction L with
  | nil => simp [idxA] at h
  | cons z r ih =>
    unfold idxA at h ⊢
    by_cases hz : p z = true
    · rw [if_pos hz]
      exact ⟨z, rfl, hz⟩
    · rw [if_neg hz] at h ⊢
      by_cases h0 : idxA p r < 0
      · rw [if_pos h0] at h
        omega
      · rw [if_neg h0] at h ⊢
        obtain ⟨y, hy, hp⟩ := ih (by omega)
        refine ⟨y, ?_, hp⟩
        rw [show (idxA p r + 1).toNat = (idxA p r).toNat + 1 by omega]
        simpa using hy
/-- No one ahead: then none is found. -/
theorem idxA_apart {L : List (Int × Int)} {b : Int} (h : ∀ y ∈ L, y.1 ≠ b) : idxA (fun y : Int × Int => decide (y.1 = b)) L = -1 := idxA_none fun y hy => decide_eq_false (h y hy)
/-- The last one that is so is the first one, if they are apart. -/
theorem step_at {L : List (Int × Int)} {x : Int × Int} {b : Int} (ha : ∀ y ∈ L, y.1 ≠ x.1) : idxA (fun y : Int × Int => decide (y.1 = b)) (L ++ [x]) = if x.1 = b then (L.length : Int) else idxA (fun y : Int × Int => decide (y.1 = b)) L := by
  rw [idxA_snoc]
  by_cases h : x.1 = b
  · rw [if_pos h, idxA_apart (fun y hy e => ha y hy (e.trans h.symm)), if_pos (by decide), if_pos (decide_eq_true h)]
  · rw [if_neg h]
    have := idxA_ge (fun y : Int × Int => decide (y.1 = b)) L
    split
    · rw [if_neg (by simp [h])]
      omega
    · rfl
theorem step_behind {L : List (Int × Int)} {x : Int × Int} {b : Int} (ha : ∀ y ∈ L, y.1 ≠ x.1) : behindA b (L ++ [x]) = if x.1 = b then x.2 else behindA b L := by
  unfold behindA
  rw [step_at ha]
  by_cases h : x.1 = b
  · rw [if_pos h, if_pos h, Int.toNat_natCast, List.getElem?_append_right (Nat.le_refl _), Nat.sub_self]
    show (if ((L.length : Nat) : Int) < 0 then (-1 : Int) else x.2) = x.2
    rw [if_neg (by omega)]
  · rw [if_neg h, if_neg h]
    have hge := idxA_ge (fun y : Int × Int => decide (y.1 = b)) L
    have hlt := idxA_lt (fun y : Int × Int => decide (y.1 = b)) L
    by_cases h0 : idxA (fun y : Int × Int => decide (y.1 = b)) L < 0
    · have e : idxA (fun y : Int × Int => decide (y.1 = b)) L = -1 := by omega
      rw [e]
      rcases (L ++ [x])[(-1 : Int).toNat]? with _ | u <;> rcases L[(-1 : Int).toNat]? with _ | v <;> simp
    · rw [List.getElem?_append_left (by omega)]
theorem behind_nil (b : Int) : behindA b [] = -1 := rfl
/-- Which host: the lowest one of those from a place on. -/
def whoD (p : List (Int × Int) → Bool) (M : List (List (Int × Int))) (i : Nat) : Int := if idxA p (M.drop i) < 0 then -1 else idxA p (M.drop i) + i
theorem whoD_all {p : List (Int × Int) → Bool} {M : List (List (Int × Int))} : whoD p M 0 = idxA p M := by
  have := idxA_ge p M
  unfold whoD
  rw [List.drop_zero]
  split <;> omega
theorem whoD_end {p : List (Int × Int) → Bool} {M : List (List (Int × Int))} : whoD p M M.length = -1 := by
  unfold whoD
  rw [List.drop_length]
  rfl
theorem whoD_step {p : List (Int × Int) → Bool} {M : List (List (Int × Int))} {i : Nat} {x : List (Int × Int)} (h : M[i]? = some x) : whoD p M i = if p x = true then (i : Int) else whoD p M (i + 1) := by
  have hd : M.drop i = x :: M.drop (i + 1) := by
    have hi := (List.getElem?_eq_some_iff.1 h).1
    rw [List.drop_eq_getElem_cons hi]
    congr 1
    exact (List.getElem?_eq_some_iff.1 h).2
  have hge := idxA_ge p (M.drop (i + 1))
  unfold whoD
  rw [hd]
  show (if (if p x = true then (0 : Int) else if idxA p (M.drop (i + 1)) < 0 then -1 else idxA p (M.drop (i + 1)) + 1) < 0 then (-1 : Int) else (if p x = true then (0 : Int) else if idxA p (M.drop (i + 1)) < 0 then -1 else idxA p (M.drop (i + 1)) + 1) + i) = _
  by_cases hp : p x = true
  · simp [hp]
  · simp only [if_neg hp]
    by_cases h0 : idxA p (M.drop (i + 1)) < 0
    · simp [h0]
    · simp only [if_neg h0]
      rw [if_neg (by omega)]
      push_cast
      omega
theorem hasP_nil (y : Int × Int) : hasP y [] = false := rfl
theorem hasP_snoc (y : Int × Int) (L : List (Int × Int)) (x : Int × Int) : hasP y (L ++ [x]) = (hasP y L || (decide (x.1 = y.1) && decide (x.2 = y.2))) := by
  have hge := idxA_ge (isP y) L
  unfold hasP
  rw [idxA_snoc]
  have hi : isP y x = (decide (x.1 = y.1) && decide (x.2 = y.2)) := by
    unfold isP
    rw [show decide (y.1 = x.1) = decide (x.1 = y.1) from decide_eq_decide.2 ⟨Eq.symm, Eq.symm⟩, show decide (y.2 = x.2) = decide (x.2 = y.2) from decide_eq_decide.2 ⟨Eq.symm, Eq.symm⟩]
  rw [← hi]
  by_cases h0 : idxA (isP y) L < 0
  · rw [if_pos h0, decide_eq_false (show ¬ 0 ≤ idxA (isP y) L by omega), Bool.false_or]
    rcases hp : isP y x with _ | _
    · simp
    · simp
  · rw [if_neg h0, decide_eq_true (show 0 ≤ idxA (isP y) L by omega), Bool.true_or]
/-- How a place is seen outside, of a topology that may be. -/
theorem out_fine {ns : List (Int × Int)} {x : Int × Int} (h1 : -1 ≤ x.2) (h2 : x.2 < (ns.length : Int)) : (x.2 < 0 → outO ns x = x.1) ∧ (¬ x.2 < 0 → ∃ y, ns[x.2.toNat]? = some y ∧ outO ns x = y.1) := by
  constructor
  · intro h
    unfold outO
    rw [if_pos (by omega)]
  · intro h
    obtain ⟨y, hy⟩ : ∃ y, ns[x.2.toNat]? = some y := ⟨_, List.getElem?_eq_getElem (by omega)⟩
    refine ⟨y, hy, ?_⟩
    unfold outO
    rw [if_neg (by omega), if_neg h, hy]
/-- Addresses outside are apart. -/
theorem outer_apart {ns : List (Int × Int)} {k : Nat} {x : Int × Int} (h : Good (spN ns)) (hx : ns[k]? = some x) : ∀ y ∈ ns.take k, y.1 ≠ x.1 := by
  intro y hy e
  have hg : Good (spN (ns.take k) ++ [(-1, x.1)]) := by
    rw [← spN_snoc, ← take_snoc hx]
    exact good_sub ((List.take_sublist _ _).map _) h
  refine (good_snoc.1 hg).2.1 ?_
  rw [← e]
  exact List.mem_map.2 ⟨y, hy, rfl⟩
end Go.Proofs.Ythjhiogbnacmdaa.top
