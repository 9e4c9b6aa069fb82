/- Layer 16: the parts as runs of the numbers, pure. -/
import Derived.Test.YthddacgdmngfhaaGqD
namespace Go.Proofs.Ythddacgdmngfhaa.gap
open Go.ChangeShapes Go.WideShapes Go.ChangeAt Go.RowKit kit gapm
theorem inv_mono : ∀ {P : Pt} {b : Nat}, Inv b P → ∀ {i k : Nat} {p q : Nat × Nat}, i < k → P[i]? = some p → P[k]? = some q → p.2 + 1 < q.1
  | [], _, _, i, k, p, q, _, hp, _ => by simp at hp
  | (f, t) :: r, b, h, 0, k + 1, p, q, _, hp, hq => by
    obtain rfl : (f, t) = p := by simpa using hp
    have hm : Mem q.1 r := ⟨q, List.mem_of_getElem? (by simpa using hq), Nat.le_refl _, inv_le h.2.2 q (List.mem_of_getElem? (by simpa using hq))⟩
    exact Inv.mem h.2.2 hm
  | (f, t) :: r, b, h, i + 1, k + 1, p, q, hik, hp, hq => inv_mono (P := r) h.2.2 (i := i) (k := k) (by omega) (by simpa using hp) (by simpa using hq)
theorem mem_idx {P : Pt} {y : Nat} (h : Mem y P) : ∃ (i : Nat) (p : Nat × Nat), P[i]? = some p ∧ p.1 ≤ y ∧ y ≤ p.2 := by
  obtain ⟨p, hp, h1, h2⟩ := h
  obtain ⟨i, hi⟩ := List.mem_iff_getElem?.1 hp
  exact ⟨i, p, hi, h1, h2⟩
theorem idx_mem {P : Pt} {i y : Nat} {p : Nat × Nat} (h : P[i]? = some p) (h1 : p.1 ≤ y) (h2 : y ≤ p.2) : Mem y P := ⟨p, List.mem_of_getElem? h, h1, h2⟩
theorem inv_end {P : Pt} {b i : Nat} {p : Nat × Nat} (h : Inv b P) (hp : P[i]? = some p) : ¬ Mem (p.2 + 1) P := fun hm => by
  obtain ⟨k, q, hq, h1, h2⟩ := mem_idx hm
  have hle := inv_le h p (List.mem_of_getElem? hp)
  rcases Nat.lt_trichotomy i k with e | e | e
  · have := inv_mono h e hp hq; omega
  · subst e
    obtain rfl : p = q := Option.some.inj (hp.symm.trans hq)
    omega
  · have := inv_mono h e hq hp; omega
theorem inv_begin {P : Pt} {b i : Nat} {p : Nat × Nat} (h : Inv b P) (hp : P[i]? = some p) : ¬ Mem (p.1 - 1) P := fun hm => by
  obtain ⟨k, q, hq, h1, h2⟩ := mem_idx hm
  have hle := inv_le h p (List.mem_of_getElem? hp)
  have hb := Inv.mem h (idx_mem hp (Nat.le_refl _) hle)
  rcases Nat.lt_trichotomy i k with e | e | e
  · have := inv_mono h e hp hq; omega
  · subst e
    obtain rfl : p = q := Option.some.inj (hp.symm.trans hq)
    omega
  · have := inv_mono h e hq hp; omega
/-- So many parts begin ahead of a number. -/
def Jn (c : Nat) (P : Pt) (j n : Nat) : Prop := j ≤ P.length ∧ ∀ (i : Nat) (p : Nat × Nat), P[i]? = some p → (i < j ↔ p.1 < c + n)
theorem jn_start {c : Nat} {P : Pt} (h : Inv c P) : Jn c P 0 1 := ⟨Nat.zero_le _, fun i p hp => by
  have := Inv.mem h (idx_mem hp (Nat.le_refl _) (inv_le h p (List.mem_of_getElem? hp)))
  omega⟩
theorem jn_skip {c j n : Nat} {P : Pt} (h : Jn c P j n) (hs : ∀ (i : Nat) (p : Nat × Nat), P[i]? = some p → p.1 ≠ c + n) : Jn c P j (n + 1) := ⟨h.1, fun i p hp => by
  have h1 := h.2 i p hp
  have h2 := hs i p hp
  constructor
  · intro q; have := h1.1 q; omega
  · intro q; exact h1.2 (by omega)⟩
theorem jn_take {c j n i : Nat} {P : Pt} {p : Nat × Nat} (hI : Inv c P) (h : Jn c P j n) (hp : P[i]? = some p) (hs : p.1 = c + n) : i = j ∧ Jn c P (j + 1) (n + 1) := by
  have hi := (List.getElem?_eq_some_iff.1 hp).1
  have hij : ¬ i < j := fun q => by have := (h.2 i p hp).1 q; omega
  have e : i = j := by
    rcases Nat.lt_trichotomy i j with q | q | q
    · exact absurd q hij
    · exact q
    · obtain ⟨x, hx⟩ : ∃ x, P[j]? = some x := ⟨_, List.getElem?_eq_getElem (by omega)⟩
      have h1 := inv_mono hI q hx hp
      have h2 := inv_le hI x (List.mem_of_getElem? hx)
      have := (h.2 j x hx).2 (by omega)
      omega
  subst e
  refine ⟨rfl, by omega, fun k q hq => ?_⟩
  have h1 := h.2 k q hq
  constructor
  · intro hk
    rcases Nat.lt_or_ge k i with a | a
    · have := h1.1 a; omega
    · obtain rfl : k = i := by omega
      obtain rfl : p = q := Option.some.inj (hp.symm.trans hq)
      omega
  · intro hk
    rcases Nat.lt_or_ge i k with a | a
    · have h3 := inv_mono hI a hp hq
      have h4 := inv_le hI p (List.mem_of_getElem? hp)
      omega
    · omega
theorem jn_all {c j n : Nat} {P : Pt} (h : Jn c P j n) (hs : ∀ (i : Nat) (p : Nat × Nat), P[i]? = some p → p.1 < c + n) : j = P.length := by
  rcases Nat.lt_or_ge j P.length with q | q
  · obtain ⟨x, hx⟩ : ∃ x, P[j]? = some x := ⟨_, List.getElem?_eq_getElem q⟩
    have := (h.2 j x hx).2 (hs j x hx)
    omega
  · have := h.1; omega
/-- A part begins at a number if it came and the one ahead didn't. -/
theorem fits_start {s : St} {F : List Nat} (hf : Fits s F) (hok : s.Ok) {n : Nat} (hn : 1 ≤ n) : (hasB F n = true ∧ hasB F (n - 1) = false) ↔ ∃ (i : Nat) (p : Nat × Nat), s.P[i]? = some p ∧ p.1 = s.c + n := by
  constructor
  · rintro ⟨h1, h2⟩
    have m1 := ((hf n).1 (hasB_iff.1 h1)).2
    obtain ⟨i, p, hp, q1, q2⟩ := mem_idx m1
    refine ⟨i, p, hp, ?_⟩
    rcases Nat.lt_or_ge p.1 (s.c + n) with a | a
    · have hb := Inv.mem hok m1
      have h3 : n - 1 ∈ F := (hf _).2 ⟨by
        have := Inv.mem hok (idx_mem hp (Nat.le_refl _) (by omega : p.1 ≤ p.2))
        omega, idx_mem hp (by omega) (by omega)⟩
      rw [hasB_iff.2 h3] at h2
      cases h2
    · omega
  · rintro ⟨i, p, hp, e⟩
    have hle := inv_le hok p (List.mem_of_getElem? hp)
    refine ⟨hasB_iff.2 ((hf n).2 ⟨by omega, idx_mem hp (by omega) (by omega)⟩), ?_⟩
    rcases hq : hasB F (n - 1) with _ | _
    · rfl
    · have := ((hf _).1 (hasB_iff.1 hq)).2
      have h0 := ((hf _).1 (hasB_iff.1 hq)).1
      have hb := inv_begin hok hp
      rw [show s.c + (n - 1) = p.1 - 1 by omega] at this
      exact absurd this hb
/-- Within a part the next one is there up to its end. -/
theorem fits_next {s : St} {F : List Nat} (hf : Fits s F) (hok : s.Ok) {i x : Nat} {p : Nat × Nat} (hp : s.P[i]? = some p) (h1 : p.1 ≤ s.c + x) (h2 : s.c + x ≤ p.2) : hasB F (x + 1) = decide (s.c + x < p.2) := by
  rw [Bool.eq_iff_iff, hasB_iff, decide_eq_true_iff, hf]
  constructor
  · rintro ⟨_, hm⟩
    rcases Nat.lt_or_ge (s.c + x) p.2 with a | a
    · exact a
    · have := inv_end hok hp
      rw [show s.c + (x + 1) = p.2 + 1 by omega] at hm
      exact absurd hm this
  · intro h
    exact ⟨by omega, idx_mem hp (by omega) (by omega)⟩
theorem own_take {w : World} {b0 size n k cap : Nat} {t : TypeId} {oa : Option Addr} {xs : List Value} (own : w.ownsRow b0 t size (.slice oa n cap) n xs) (h : k ≤ n) : w.ownsRow b0 t size (.slice oa k cap) k (xs.take (k * size)) := by
  have hk : k * size ≤ n * size := Nat.mul_le_mul_right _ h
  refine ⟨by rw [List.length_take, own.1]; omega, ?_⟩
  rcases own.2 with ⟨e, h0⟩ | ⟨g, cap', cur, e, hb, hg, hn, hm, hs, ht⟩
  · simp only [Value.slice.injEq] at e
    obtain ⟨rfl, -, rfl⟩ := e
    obtain rfl : k = 0 := by omega
    exact .inl ⟨rfl, rfl⟩
  · simp only [Value.slice.injEq] at e
    obtain ⟨rfl, -, rfl⟩ := e
    refine .inr ⟨g, cap, cur, rfl, hb, hg, by omega, hm, hs, ?_⟩
    rw [← ht, List.take_take, Nat.min_eq_left hk]
end Go.Proofs.Ythddacgdmngfhaa.gap
