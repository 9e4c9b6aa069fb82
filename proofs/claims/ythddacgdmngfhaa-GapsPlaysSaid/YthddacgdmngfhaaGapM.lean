/- Which numbers came, as parts that lie apart: the same numbers, the same parts. -/
namespace gapm
abbrev Pt := List (Nat × Nat)
/-- Parts behind b: each one begins at least two behind the one ahead. -/
def Inv : Nat → Pt → Prop
  | _, [] => True
  | b, (f, t) :: r => b + 1 < f ∧ f ≤ t ∧ Inv t r
def Mem (y : Nat) (P : Pt) : Prop := ∃ p ∈ P, p.1 ≤ y ∧ y ≤ p.2
def join (x : Nat) : Pt → Pt
  | [] => [(x, x)]
  | (f, t) :: r =>
    if x < f then (if x + 1 = f then (x, t) :: r else (x, x) :: (f, t) :: r)
    else if t + 1 = x then
      match r with
      | [] => [(f, x)]
      | (g, u) :: q => if x + 1 = g then (f, u) :: q else (f, x) :: (g, u) :: q
    else (f, t) :: join x r
theorem Mem.cons {y : Nat} {p : Nat × Nat} {P : Pt} : Mem y (p :: P) ↔ (p.1 ≤ y ∧ y ≤ p.2) ∨ Mem y P := by
  unfold Mem
  simp
theorem Mem.nil {y : Nat} : ¬ Mem y [] := by unfold Mem; simp
theorem Inv.weaken {b b' : Nat} (h : b' ≤ b) : ∀ {P : Pt}, Inv b P → Inv b' P
  | [], _ => trivial
  | (f, t) :: r, i => ⟨by have := i.1; omega, i.2.1, i.2.2⟩
theorem Inv.mem {b y : Nat} : ∀ {P : Pt}, Inv b P → Mem y P → b + 1 < y
  | [], _, m => absurd m Mem.nil
  | (f, t) :: r, i, m => by
    rcases Mem.cons.1 m with h | h
    · have := i.1; omega
    · have h1 := Inv.mem i.2.2 h
      have := i.1; have := i.2.1; omega
theorem join_mem (x y : Nat) : ∀ (P : Pt) (b : Nat), Inv b P → (Mem y (join x P) ↔ y = x ∨ Mem y P)
  | [], _, _ => by unfold join; rw [Mem.cons]; simp [Mem.nil]; omega
  | (f, t) :: r, b, i => by
    obtain ⟨i1, i2, i3⟩ := i
    unfold join
    by_cases h1 : x < f
    · rw [if_pos h1]
      by_cases h2 : x + 1 = f
      · rw [if_pos h2, Mem.cons, Mem.cons]
        dsimp only
        constructor
        · rintro (h | h)
          · by_cases e : y = x
            · exact .inl e
            · exact .inr (.inl (by omega))
          · exact .inr (.inr h)
        · rintro (h | h | h)
          · exact .inl (by omega)
          · exact .inl (by omega)
          · exact .inr h
      · rw [if_neg h2, Mem.cons]
        dsimp only
        constructor
        · rintro (h | h)
          · exact .inl (by omega)
          · exact .inr h
        · rintro (h | h)
          · exact .inl (by omega)
          · exact .inr h
    · rw [if_neg h1]
      by_cases h3 : t + 1 = x
      · rw [if_pos h3]
        cases r with
        | nil =>
          dsimp only
          rw [Mem.cons, Mem.cons]
          dsimp only
          simp only [Mem.nil, or_false]
          omega
        | cons p q =>
          obtain ⟨g, u⟩ := p
          obtain ⟨j1, j2, j3⟩ := i3
          dsimp only
          by_cases h4 : x + 1 = g
          · rw [if_pos h4]
            simp only [Mem.cons]
            constructor
            · rintro (h | h)
              · by_cases e : y = x
                · exact .inl e
                · by_cases e2 : y ≤ t
                  · exact .inr (.inl ⟨h.1, e2⟩)
                  · exact .inr (.inr (.inl ⟨by omega, h.2⟩))
              · exact .inr (.inr (.inr h))
            · rintro (h | h | h | h)
              · exact .inl (by omega)
              · exact .inl (by omega)
              · exact .inl (by omega)
              · exact .inr h
          · rw [if_neg h4]
            simp only [Mem.cons]
            constructor
            · rintro (h | h | h)
              · by_cases e : y = x
                · exact .inl e
                · exact .inr (.inl (by omega))
              · exact .inr (.inr (.inl h))
              · exact .inr (.inr (.inr h))
            · rintro (h | h | h | h)
              · exact .inl (by omega)
              · exact .inl (by omega)
              · exact .inr (.inl h)
              · exact .inr (.inr h)
      · rw [if_neg h3, Mem.cons, Mem.cons, join_mem x y r t i3]
        constructor
        · rintro (h | h | h)
          · exact .inr (.inl h)
          · exact .inl h
          · exact .inr (.inr h)
        · rintro (h | h | h)
          · exact .inr (.inl h)
          · exact .inl h
          · exact .inr (.inr h)
theorem join_inv (x : Nat) : ∀ (P : Pt) (b : Nat), Inv b P → b < x → ¬ Mem x P → b + 1 < x → Inv b (join x P)
  | [], b, _, _, _, h => ⟨h, Nat.le_refl _, trivial⟩
  | (f, t) :: r, b, i, hb, hm, hx => by
    obtain ⟨i1, i2, i3⟩ := i
    have hm1 : ¬ (f ≤ x ∧ x ≤ t) := fun h => hm (Mem.cons.2 (.inl h))
    have hm2 : ¬ Mem x r := fun h => hm (Mem.cons.2 (.inr h))
    unfold join
    by_cases h1 : x < f
    · rw [if_pos h1]
      by_cases h2 : x + 1 = f
      · rw [if_pos h2]; exact ⟨hx, by omega, i3⟩
      · rw [if_neg h2]; exact ⟨hx, Nat.le_refl _, by omega, i2, i3⟩
    · rw [if_neg h1]
      by_cases h3 : t + 1 = x
      · rw [if_pos h3]
        cases r with
        | nil => exact ⟨i1, by omega, trivial⟩
        | cons p q =>
          obtain ⟨g, u⟩ := p
          obtain ⟨j1, j2, j3⟩ := i3
          dsimp only
          by_cases h4 : x + 1 = g
          · rw [if_pos h4]; exact ⟨i1, by omega, j3⟩
          · rw [if_neg h4]; exact ⟨i1, by omega, by omega, j2, j3⟩
      · rw [if_neg h3]
        exact ⟨i1, i2, join_inv x r t i3 (by omega) hm2 (by omega)⟩
/-- The same numbers behind one number: the same parts. -/
theorem inv_eq : ∀ (P Q : Pt) (b : Nat), Inv b P → Inv b Q → (∀ y, Mem y P ↔ Mem y Q) → P = Q
  | [], [], _, _, _, _ => rfl
  | [], (f, t) :: r, _, _, j, h => absurd ((h f).2 (Mem.cons.2 (.inl ⟨Nat.le_refl _, j.2.1⟩))) Mem.nil
  | (f, t) :: r, [], _, i, _, h => absurd ((h f).1 (Mem.cons.2 (.inl ⟨Nat.le_refl _, i.2.1⟩))) Mem.nil
  | (f, t) :: r, (g, u) :: q, b, i, j, h => by
    obtain ⟨i1, i2, i3⟩ := i
    obtain ⟨j1, j2, j3⟩ := j
    have lo : ∀ {f t y : Nat} {r : Pt}, f ≤ t → Inv t r → Mem y ((f, t) :: r) → f ≤ y := fun h0 h1 m => by
      rcases Mem.cons.1 m with q | q
      · exact q.1
      · have := h1.mem q; omega
    have e1 : f = g := by
      have a := lo j2 j3 ((h f).1 (Mem.cons.2 (.inl ⟨Nat.le_refl _, i2⟩)))
      have c := lo i2 i3 ((h g).2 (Mem.cons.2 (.inl ⟨Nat.le_refl _, j2⟩)))
      omega
    subst e1
    have e2 : t = u := by
      rcases Nat.lt_trichotomy t u with k | k | k
      · have := (h (t + 1)).2 (Mem.cons.2 (.inl ⟨by show f ≤ t + 1; omega, by show t + 1 ≤ u; omega⟩))
        rcases Mem.cons.1 this with q | q
        · have := q.2; simp at this; omega
        · have := i3.mem q; omega
      · exact k
      · have := (h (u + 1)).1 (Mem.cons.2 (.inl ⟨by show f ≤ u + 1; omega, by show u + 1 ≤ t; omega⟩))
        rcases Mem.cons.1 this with q | q
        · have := q.2; simp at this; omega
        · have := j3.mem q; omega
    subst e2
    have e3 : r = q := inv_eq r q t i3 j3 fun y => by
      constructor
      · intro m
        rcases Mem.cons.1 ((h y).1 (Mem.cons.2 (.inr m))) with k | k
        · have := i3.mem m; have := k.2; simp at this; omega
        · exact k
      · intro m
        rcases Mem.cons.1 ((h y).2 (Mem.cons.2 (.inr m))) with k | k
        · have := j3.mem m; have := k.2; simp at this; omega
        · exact k
    rw [e3]
/-- Up to where all came, and the parts behind it. -/
structure St where
  c : Nat
  P : Pt
def St.Ok (s : St) : Prop := Inv s.c s.P
def St.has (s : St) (y : Nat) : Prop := y ≤ s.c ∨ Mem y s.P
def goOn (s : St) : St := match s.P with
  | (f, t) :: r => if f = s.c + 1 then ⟨t, r⟩ else s
  | [] => s
def add (s : St) (x : Nat) : St := goOn ⟨s.c, join x s.P⟩
theorem st_eq {s u : St} (i : s.Ok) (j : u.Ok) (h : ∀ y, s.has y ↔ u.has y) : s = u := by
  obtain ⟨c, P⟩ := s
  obtain ⟨d, Q⟩ := u
  have e : c = d := by
    rcases Nat.lt_trichotomy c d with k | k | k
    · rcases (h (c + 1)).2 (.inl k) with q | q
      · exact absurd q (by show ¬ c + 1 ≤ c; omega)
      · have := Inv.mem i q; simp at this
    · exact k
    · rcases (h (d + 1)).1 (.inl k) with q | q
      · exact absurd q (by show ¬ d + 1 ≤ d; omega)
      · have := Inv.mem j q; simp at this
  subst e
  have : P = Q := inv_eq P Q c i j fun y => by
    constructor
    · intro m
      rcases (h y).1 (.inr m) with k | k
      · have := Inv.mem i m; have : y ≤ c := k; simp at *; omega
      · exact k
    · intro m
      rcases (h y).2 (.inr m) with k | k
      · have := Inv.mem j m; have : y ≤ c := k; simp at *; omega
      · exact k
  rw [this]
end gapm
