/- General words, over any program: rows that are owned. -/
import Derived.Test.YthjhiogbnacmdaaKitC
namespace Go.Proofs.Ythjhiogbnacmdaa.kit
open Go.ChangeShapes Go.WideShapes Go.ChangeAt Go.RowKit

theorem blk_setCells_own {h : Nat} {t : TypeId} : ∀ (vs : List Value) (o : Nat) (w : World) (cur : Array Value), Blk w h t cur → ∃ cur', Blk (w.setCells h o vs) h t cur' ∧ cur'.size = cur.size
  | [], _, _, cur, B => ⟨cur, B, rfl⟩
  | v :: r, o, w, cur, B => by
    obtain ⟨c, B', hs⟩ := blk_setCells_own r (o + 1) _ _ (B.set_ o v)
    exact ⟨c, B', by simpa using hs⟩
section
variable {w w' : World} {b0 n size : Nat} {t : TypeId} {v : Value} {xs : List Value}
theorem own_blk {h cap : Nat} (own : w.ownsRow b0 t size (.slice (some ⟨h, 0, none⟩) n cap) n xs) : ∃ cur, Blk w h t cur ∧ b0 ≤ h ∧ n ≤ cap ∧ cap ≤ maxLen ∧ cur.size = cap * size := by
  rcases own.2 with ⟨q, _⟩ | ⟨h', cap', cur, q, hb, hg, hn, hm, hs, _⟩
  · simp at q
  · simp only [Value.slice.injEq, Option.some.injEq, Addr.mk.injEq, and_true, true_and] at q
    obtain ⟨rfl, rfl⟩ := q
    exact ⟨cur, hg, hb, hn, hm, hs⟩
/-- Nobody's part: the row is there still. -/
theorem own_none {h cap : Nat} {cur : Array Value} (B : Blk w h t cur) (hb : b0 ≤ h) (hm : cap ≤ maxLen) (hs : cur.size = cap * size) : w.ownsRow b0 t size (.slice (some ⟨h, 0, none⟩) 0 cap) 0 [] :=
  ⟨by simp, .inr ⟨h, cap, cur, rfl, hb, B, Nat.zero_le _, hm, hs, by simp⟩⟩
theorem own_below {B : Nat} (own : w.ownsRow b0 t size v n xs) (hb : Below B w w') (hv : ∀ k, v.ownBlock = some k → k < B) : w'.ownsRow b0 t size v n xs := by
  refine ⟨own.1, ?_⟩
  rcases own.2 with q | ⟨h, cap, cur, rfl, q1, q2, q3⟩
  · exact .inl q
  · exact .inr ⟨h, cap, cur, rfl, q1, (hb.block h (hv h rfl)).trans q2, q3⟩
theorem own_lt (own : w.ownsRow b0 t size v n xs) : ∀ k, v.ownBlock = some k → k < w.heap.size := by
  intro k hk
  rcases own.2 with ⟨rfl, _⟩ | ⟨h, cap, cur, rfl, q1, q2, _⟩
  · cases hk
  · cases hk; exact (Array.getElem?_eq_some_iff.1 q2).1
theorem own_ge (own : w.ownsRow b0 t size v n xs) : ∀ k, v.ownBlock = some k → b0 ≤ k := by
  intro k hk
  rcases own.2 with ⟨rfl, _⟩ | ⟨h, cap, cur, rfl, q1, _⟩
  · cases hk
  · cases hk; exact q1
theorem own_other (own : w.ownsRow b0 t size v n xs) (hb : ∀ k, v.ownBlock = some k → w'.heap[k]? = w.heap[k]?) : w'.ownsRow b0 t size v n xs := by
  refine ⟨own.1, ?_⟩
  rcases own.2 with q | ⟨h, cap, cur, rfl, q1, q2, q3⟩
  · exact .inl q
  · exact .inr ⟨h, cap, cur, rfl, q1, (hb h rfl).trans q2, q3⟩
theorem own_all (own : w.ownsRow b0 t size v n xs) (hb : Below w.heap.size w w') : w'.ownsRow b0 t size v n xs := own_below own hb (own_lt own)
end
end Go.Proofs.Ythjhiogbnacmdaa.kit
