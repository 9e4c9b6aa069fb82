/- Layer 38: what is wrong of entries, as the program says. -/
import Derived.Test.YthjhiogbnacmdaaAudA
import Derived.Outline
import Derived.OwnWalk
import Derived.BigQuiet
import Derived.LoopTactic
import Derived.Deep.CutBlock
import Derived.Deep.DeepCutAuto
import Derived.Deep.RegionWith
import Derived.BigRegion
import Derived.Lib.Hide
namespace Go.Proofs.Ythjhiogbnacmdaa.aud
open Go.Sort (grow)
open Go.ChangeShapes Go.WideShapes Go.ChangeAt Go.RowKit kit
set_option maxRecDepth 100000

abbrev Ent := Int × Int × Int × Int × Int × Int × Int
def e0 : Ent := (0, 0, 0, 0, 0, 0, 0)
open Classical in
/-- How many of the first ones have a key. -/
noncomputable def ct (L : List Ent) : Nat → Value → Int
  | 0 => fun _ => 0
  | k + 1 => fun y => ct L k y + (if y = ek (L.getD k e0) then 1 else 0)
open Classical in
theorem ct_succ (L : List Ent) (k : Nat) (y : Value) : ct L (k + 1) y = ct L k y + (if y = ek (L.getD k e0) then 1 else 0) := rfl
/-- Two of the first ones have one key. -/
def dup (L : List Ent) (k : Nat) : Prop := ∃ j i, i < j ∧ j < k ∧ ek (L.getD i e0) = ek (L.getD j e0)
theorem ct_le (L : List Ent) (k : Nat) (y : Value) : 0 ≤ ct L k y ∧ ct L k y ≤ k := by
  induction k with
  | zero => exact ⟨Int.le_refl _, Int.le_refl _⟩
  | succ k ih =>
    rw [ct_succ]
    split <;> omega
theorem ct_pos (L : List Ent) (k : Nat) (y : Value) : 0 < ct L k y ↔ ∃ i, i < k ∧ ek (L.getD i e0) = y := by
  induction k with
  | zero => exact ⟨fun h => absurd h (Int.lt_irrefl _), fun ⟨i, hi, _⟩ => absurd hi (Nat.not_lt_zero i)⟩
  | succ k ih =>
    have hb := ct_le L k y
    rw [ct_succ]
    by_cases h : y = ek (L.getD k e0)
    · rw [if_pos h]
      exact ⟨fun _ => ⟨k, by omega, h.symm⟩, fun _ => by omega⟩
    · rw [if_neg h, Int.add_zero, ih]
      constructor
      · rintro ⟨i, hi, e⟩
        exact ⟨i, by omega, e⟩
      · rintro ⟨i, hi, e⟩
        refine ⟨i, ?_, e⟩
        rcases Nat.lt_succ_iff_lt_or_eq.1 hi with q | q
        · exact q
        · subst q; exact absurd e.symm h
theorem dup_succ (L : List Ent) (k : Nat) : dup L (k + 1) ↔ dup L k ∨ 0 < ct L k (ek (L.getD k e0)) := by
  rw [ct_pos]
  constructor
  · rintro ⟨j, i, hij, hj, e⟩
    rcases Nat.lt_succ_iff_lt_or_eq.1 hj with q | q
    · exact .inl ⟨j, i, hij, q, e⟩
    · subst q; exact .inr ⟨i, hij, e⟩
  · rintro (⟨j, i, hij, hj, e⟩ | ⟨i, hi, e⟩)
    · exact ⟨j, i, hij, by omega, e⟩
    · exact ⟨k, i, hi, by omega, e⟩
theorem ct_self (L : List Ent) (k : Nat) : ct L (k + 1) (ek (L.getD k e0)) = ct L k (ek (L.getD k e0)) + 1 := by
  rw [ct_succ, if_pos rfl]
open Classical in
theorem ct_upd (L : List Ent) (k : Nat) : (fun y => if y = ek (L.getD k e0) then ct L k (ek (L.getD k e0)) + 1 else ct L k y) = ct L (k + 1) := by
  funext y
  by_cases h : y = ek (L.getD k e0)
  · subst h
    rw [ct_self, if_pos rfl]
  · rw [if_neg h, ct_succ, if_neg h, Int.add_zero]
open Classical in
/-- What is wrong of entries. -/
noncomputable def wrong (L : List Ent) (k : Nat) (most : Int) : Int := (if most < (L.length : Int) then 2 else 0) + (if dup L k then 4 else 0)
end Go.Proofs.Ythjhiogbnacmdaa.aud
