/- Layer 16: a number joined to parts, by its place; no memory. -/
import Derived.Test.YthddacgdmngfhaaGpG
namespace Go.Proofs.Ythddacgdmngfhaa.gap
open gapm
def idx (x : Nat) : Pt → Nat
  | [] => 0
  | (f, _) :: r => if x < f then 0 else idx x r + 1
def ahead (x : Nat) (P : Pt) : Nat → Bool
  | 0 => false
  | a + 1 => match P[a]? with
    | some p => p.2 + 1 == x
    | none => false
def behind (x : Nat) (P : Pt) (a : Nat) : Bool := match P[a]? with
  | some p => x + 1 == p.1
  | none => false
def jn (x : Nat) (P : Pt) (a : Nat) : Pt :=
  if ahead x P a = true then
    (if behind x P a = true then (P.set (a - 1) ((P.getD (a - 1) (0, 0)).1, (P.getD a (0, 0)).2)).eraseIdx a else P.set (a - 1) ((P.getD (a - 1) (0, 0)).1, x))
  else if behind x P a = true then P.set a (x, (P.getD a (0, 0)).2) else insL a x P
theorem idx_le (x : Nat) : ∀ P, idx x P ≤ P.length
  | [] => Nat.le_refl _
  | (f, t) :: r => by
    unfold idx
    split
    · omega
    · have := idx_le x r; simp only [List.length_cons]; omega
theorem jn_cons (x i f t : Nat) (r : Pt) (h : ¬ t + 1 = x) : jn x ((f, t) :: r) (i + 1) = (f, t) :: jn x r i := by
  have h1 : ahead x ((f, t) :: r) (i + 1) = ahead x r i := by
    cases i with
    | zero => simp [ahead, h]
    | succ a => rfl
  have h2 : behind x ((f, t) :: r) (i + 1) = behind x r i := rfl
  unfold jn
  rw [h1, h2]
  cases i with
  | zero =>
    have h3 : ahead x r 0 = false := rfl
    simp only [h3, Bool.false_eq_true, if_false]
    split <;> simp [insL]
  | succ a =>
    split
    · split <;> simp
    · split <;> simp [insL]
theorem jn_join (x : Nat) : ∀ (P : Pt) (b : Nat), Inv b P → ¬ Mem x P → jn x P (idx x P) = join x P
  | [], _, _, _ => rfl
  | (f, t) :: r, b, i, hm => by
    obtain ⟨i1, i2, i3⟩ := i
    have hm1 : ¬ (f ≤ x ∧ x ≤ t) := fun h => hm (Mem.cons.2 (.inl h))
    have hm2 : ¬ Mem x r := fun h => hm (Mem.cons.2 (.inr h))
    unfold idx join
    by_cases h1 : x < f
    · rw [if_pos h1, if_pos h1]
      unfold jn
      have h3 : ahead x ((f, t) :: r) 0 = false := rfl
      have h4 : behind x ((f, t) :: r) 0 = (x + 1 == f) := rfl
      simp only [h3, Bool.false_eq_true, if_false, h4, beq_iff_eq]
      by_cases h2 : x + 1 = f
      · rw [if_pos h2, if_pos h2]; rfl
      · rw [if_neg h2, if_neg h2]; rfl
    · rw [if_neg h1, if_neg h1]
      by_cases h3 : t + 1 = x
      · rw [if_pos h3]
        cases r with
        | nil =>
          have h4 : ahead x [(f, t)] (idx x [] + 1) = true := by simp [ahead, idx, h3]
          have h5 : behind x [(f, t)] (idx x [] + 1) = false := rfl
          unfold jn
          rw [if_pos h4, h5]
          rfl
        | cons p q =>
          obtain ⟨g, u⟩ := p
          obtain ⟨j1, j2, j3⟩ := i3
          have h6 : idx x ((g, u) :: q) = 0 := by unfold idx; rw [if_pos (by omega)]
          have h4 : ahead x ((f, t) :: (g, u) :: q) (0 + 1) = true := by simp [ahead, h3]
          have h5 : behind x ((f, t) :: (g, u) :: q) (0 + 1) = (x + 1 == g) := rfl
          rw [h6]
          unfold jn
          rw [if_pos h4, h5]
          simp only [beq_iff_eq]
          split <;> rfl
      · rw [if_neg h3, jn_cons x _ f t r h3, jn_join x r t i3 hm2]
theorem jn_len (x : Nat) (P : Pt) (a : Nat) : (jn x P a).length ≤ P.length + 1 := by
  unfold jn
  split
  · split
    · rw [List.length_eraseIdx]; split <;> simp <;> omega
    · simp
  · split
    · simp
    · rw [insL_len]; exact Nat.le_refl _
theorem fst_idx {x : Nat} {P : Pt} {r : Int} (h : Fst P (fun p => decide (x < p.1)) r) : (if r < 0 then (P.length : Int) else r) = idx x P := by
  have key : ∀ (P : Pt) (k : Nat), k ≤ P.length → (∀ j p, j < k → P[j]? = some p → ¬ x < p.1) → (∀ p, P[k]? = some p → x < p.1) → idx x P = k := by
    intro P
    induction P with
    | nil => intro k hk _ _; simp at hk; subst hk; rfl
    | cons p r ih =>
      intro k hk h1 h2
      obtain ⟨f, t⟩ := p
      unfold idx
      cases k with
      | zero => rw [if_pos (h2 (f, t) rfl)]
      | succ k =>
        rw [if_neg (h1 0 (f, t) (by omega) rfl), ih k (by simpa using hk) (fun j p hj hp => h1 (j + 1) p (by omega) (by simpa using hp)) (fun p hp => h2 p (by simpa using hp))]
  rcases h with ⟨rfl, h⟩ | ⟨k, rfl, hk, h1, h2⟩
  · rw [if_pos (by omega), key P P.length (Nat.le_refl _) (fun j p _ hp => by have := h p (List.mem_of_getElem? hp); simpa using this) (fun p hp => by simp at hp)]
  · rw [if_neg (by omega), key P k (by omega) (fun j p hj hp => by have := h2 j p hj hp; simpa using this) (fun p hp => by have := h1 p hp; simpa using this)]
theorem inv_le : ∀ {P : Pt} {b : Nat}, Inv b P → ∀ p ∈ P, p.1 ≤ p.2
  | [], _, _, p, h => by cases h
  | (f, t) :: r, b, i, p, h => by
    rcases List.mem_cons.1 h with rfl | h
    · exact i.2.1
    · exact inv_le i.2.2 p h
theorem mem_lo {P : Pt} {b : Nat} (i : Inv b P) {p : Nat × Nat} (h : p ∈ P) : Mem p.1 P ∧ Mem p.2 P := ⟨⟨p, h, Nat.le_refl _, inv_le i p h⟩, ⟨p, h, inv_le i p h, Nat.le_refl _⟩⟩
theorem bd_of {P : Pt} {b M : Nat} (i : Inv b P) (h : ∀ y, Mem y P → y < M) (hM : M ≤ 536870912) : Bd P := fun p hp => by
  have h1 := h _ (mem_lo i hp).1
  have h2 := h _ (mem_lo i hp).2
  omega
/-- A number that comes: what there is then. -/
theorem add_ok {s : St} {x : Nat} (i : s.Ok) (hx : s.c < x) (hm : ¬ Mem x s.P) : (add s x).Ok ∧ (∀ y, (add s x).has y ↔ y = x ∨ s.has y) ∧ s.c ≤ (add s x).c ∧ (add s x).P.length ≤ s.P.length + 1 := by
  obtain ⟨c, P⟩ := s
  have hlen : (join x P).length ≤ P.length + 1 := by rw [← jn_join x P c i hm]; exact jn_len _ _ _
  by_cases h1 : x = c + 1
  · -- the next one
    subst h1
    have hx' : ∀ f t r, P = (f, t) :: r → c + 1 < f := fun f t r e => by
      have i' : Inv c P := i
      rw [e] at i'
      exact i'.1
    cases P with
    | nil =>
      have e : add ⟨c, []⟩ (c + 1) = ⟨c + 1, []⟩ := by simp [add, goOn, join]
      rw [e]
      refine ⟨trivial, fun y => ?_, Nat.le_succ c, by simp⟩
      show (y ≤ c + 1 ∨ Mem y []) ↔ y = c + 1 ∨ (y ≤ c ∨ Mem y [])
      simp only [Mem.nil, or_false]
      omega
    | cons p r =>
      obtain ⟨f, t⟩ := p
      have hf := hx' f t r rfl
      have i2 : f ≤ t ∧ Inv t r := i.2
      by_cases h2 : c + 1 + 1 = f
      · have e : add ⟨c, (f, t) :: r⟩ (c + 1) = ⟨t, r⟩ := by simp [add, goOn, join, hf, h2]
        rw [e]
        refine ⟨i2.2, fun y => ?_, by show c ≤ t; omega, by show r.length ≤ r.length + 1 + 1; omega⟩
        show (y ≤ t ∨ Mem y r) ↔ y = c + 1 ∨ (y ≤ c ∨ Mem y ((f, t) :: r))
        rw [Mem.cons]
        constructor
        · rintro (h | h)
          · by_cases h3 : y ≤ c
            · exact .inr (.inl h3)
            · by_cases h4 : y = c + 1
              · exact .inl h4
              · exact .inr (.inr (.inl ⟨by show f ≤ y; omega, h⟩))
          · exact .inr (.inr (.inr h))
        · rintro (h | h | h | h)
          · exact .inl (by omega)
          · exact .inl (by omega)
          · exact .inl h.2
          · exact .inr h
      · have e : add ⟨c, (f, t) :: r⟩ (c + 1) = ⟨c + 1, (f, t) :: r⟩ := by simp [add, goOn, join, hf, h2]
        rw [e]
        refine ⟨⟨(show c + 1 + 1 < f by omega), i2⟩, fun y => ?_, Nat.le_succ c, by simp⟩
        show (y ≤ c + 1 ∨ Mem y ((f, t) :: r)) ↔ y = c + 1 ∨ (y ≤ c ∨ Mem y ((f, t) :: r))
        constructor
        · rintro (h | h)
          · by_cases h4 : y = c + 1
            · exact .inl h4
            · exact .inr (.inl (by omega))
          · exact .inr (.inr h)
        · rintro (h | h | h)
          · exact .inl (by omega)
          · exact .inl (by omega)
          · exact .inr h
  · have hx2 : c + 1 < x := by have : c < x := hx; omega
    have hI : Inv c (join x P) := join_inv x P c i (by omega) hm hx2
    have e : add ⟨c, P⟩ x = ⟨c, join x P⟩ := by
      unfold add goOn
      cases hj : join x P with
      | nil => rfl
      | cons p r =>
        obtain ⟨f, t⟩ := p
        rw [hj] at hI
        have := hI.1
        simp; omega
    rw [e]
    refine ⟨hI, fun y => ?_, Nat.le_refl _, hlen⟩
    show (y ≤ c ∨ Mem y (join x P)) ↔ y = x ∨ (y ≤ c ∨ Mem y P)
    rw [join_mem x y P c i]
    constructor
    · rintro (h | h | h)
      · exact .inr (.inl h)
      · exact .inl h
      · exact .inr (.inr h)
    · rintro (h | h | h)
      · exact .inr (.inl h)
      · exact .inl h
      · exact .inr (.inr h)
end Go.Proofs.Ythddacgdmngfhaa.gap
