/- General words, over any program: rows that are owned and written in the middle. -/
import Derived.Test.YthddacgdmngfhaaKitD
namespace Go.Proofs.Ythddacgdmngfhaa.kit
open Go.ChangeShapes Go.WideShapes Go.ChangeAt Go.RowKit

/-- Cells set one behind the other. -/
def layAll (cs : Array Value) : Nat → List Value → Array Value
  | _, [] => cs
  | o, v :: r => layAll (cs.setIfInBounds o v) (o + 1) r
theorem blk_layAll {w : World} {g : Nat} {t : TypeId} {cs : Array Value} (B : Blk w g t cs) : ∀ (o : Nat) (vs : List Value), Blk (w.setCells g o vs) g t (layAll cs o vs) := by
  intro o vs
  induction vs generalizing o w cs with
  | nil => exact B
  | cons v vs ih => exact ih (B.set_ o v) (o + 1)
theorem layAll_size : ∀ (vs : List Value) (o : Nat) (cs : Array Value), (layAll cs o vs).size = cs.size
  | [], _, _ => rfl
  | v :: r, o, cs => by rw [layAll, layAll_size r]; simp
theorem layAll_get : ∀ (vs : List Value) (o : Nat) (cs : Array Value) (j : Nat), o + vs.length ≤ cs.size → (layAll cs o vs)[j]? = if o ≤ j ∧ j < o + vs.length then vs[j - o]? else cs[j]?
  | [], o, cs, j, _ => by rw [layAll, if_neg (by simp only [List.length_nil]; omega)]
  | v :: r, o, cs, j, h => by
    simp only [List.length_cons] at h ⊢
    rw [layAll, layAll_get r (o + 1) _ j (by simp; omega)]
    by_cases h1 : o + 1 ≤ j ∧ j < o + 1 + r.length
    · rw [if_pos h1, if_pos (by omega), show j - o = (j - (o + 1)) + 1 by omega, List.getElem?_cons_succ]
    · rw [if_neg h1]
      by_cases h2 : o = j
      · subst h2
        rw [if_pos (by omega), Nat.sub_self, Array.getElem?_setIfInBounds_self_of_lt (by omega)]
        rfl
      · rw [if_neg (by omega), Array.getElem?_setIfInBounds_ne h2]
theorem take_eq_of_get {l xs : List Value} {n : Nat} (hn : n ≤ l.length) (hx : xs.length = n) (h : ∀ j, j < n → l[j]? = xs[j]?) : l.take n = xs := by
  apply List.ext_getElem?
  intro j
  by_cases hj : j < n
  · rw [List.getElem?_take, if_pos hj, h j hj]
  · rw [List.getElem?_eq_none (by simp; omega), List.getElem?_eq_none (by omega)]
/-- A row's cells, read out of the block. -/
theorem own_get {w : World} {b0 n size h cap : Nat} {t : TypeId} {xs : List Value} (own : w.ownsRow b0 t size (.slice (some ⟨h, 0, none⟩) n cap) n xs) : ∃ cur, Blk w h t cur ∧ b0 ≤ h ∧ n ≤ cap ∧ cap ≤ maxLen ∧ cur.size = cap * size ∧ ∀ j, j < n * size → cur[j]? = xs[j]? := by
  rcases own.2 with ⟨q, _⟩ | ⟨h', cap', cur, q, hb, hg, hn, hm, hs, ht⟩
  · simp at q
  · simp only [Value.slice.injEq, Option.some.injEq, Addr.mk.injEq, and_true, true_and] at q
    obtain ⟨rfl, rfl⟩ := q
    refine ⟨cur, hg, hb, hn, hm, hs, fun j hj => ?_⟩
    rw [← ht, List.getElem?_take, if_pos hj, Array.getElem?_toList]
/-- A row, out of the block's cells. -/
theorem own_of_get {w : World} {b0 n size h cap : Nat} {t : TypeId} {xs : List Value} {cur : Array Value} (B : Blk w h t cur) (hb : b0 ≤ h) (hn : n ≤ cap) (hm : cap ≤ maxLen) (hs : cur.size = cap * size) (hx : xs.length = n * size) (hj : ∀ j, j < n * size → cur[j]? = xs[j]?) : w.ownsRow b0 t size (.slice (some ⟨h, 0, none⟩) n cap) n xs :=
  ⟨hx, .inr ⟨h, cap, cur, rfl, hb, B, hn, hm, hs, take_eq_of_get (by rw [Array.length_toList, hs]; exact Nat.mul_le_mul_right _ hn) hx (fun j q => by rw [Array.getElem?_toList]; exact hj j q)⟩⟩
theorem Only.setCells {g : Nat} {a b : World} (h : Only g a b) : ∀ (o : Nat) (vs : List Value), Only g a (b.setCells g o vs) := by
  intro o vs
  induction vs generalizing o b with
  | nil => exact h
  | cons v vs ih => exact ih (h.setCell o v) (o + 1)
end Go.Proofs.Ythddacgdmngfhaa.kit
