/- Layer 38: the statement's pairs. -/
import Derived.Test.YthjhiogbnacmdaaAudE
namespace Go.Proofs.Ythjhiogbnacmdaa.aud
open Classical in
/-- What two loops over pairs have found: of those ahead of i all, and of i's the first j. -/
noncomputable def wi (L : List Ent) (i j : Nat) : Int := if dup L i ∨ ∃ x, x < j ∧ ek (L.getD x e0) = ek (L.getD i e0) then 4 else 0
theorem wi_or (L : List Ent) (i j : Nat) : wi L i j = 0 ∨ wi L i j = 4 := by
  unfold wi
  split
  · exact .inr rfl
  · exact .inl rfl
theorem wi_zero (L : List Ent) (i : Nat) : wi L i 0 = dd L i := by
  have h : (dup L i ∨ ∃ x, x < 0 ∧ ek (L.getD x e0) = ek (L.getD i e0)) ↔ dup L i := ⟨fun q => q.resolve_right (by rintro ⟨x, hx, _⟩; omega), .inl⟩
  unfold wi dd
  by_cases q : dup L i
  · rw [if_pos q, if_pos (h.2 q)]
  · rw [if_neg q, if_neg (fun z => q (h.1 z))]
theorem wi_all (L : List Ent) (i : Nat) : wi L i i = dd L (i + 1) := by
  have h : (dup L i ∨ ∃ x, x < i ∧ ek (L.getD x e0) = ek (L.getD i e0)) ↔ dup L (i + 1) := by rw [dup_succ, ct_pos]
  unfold wi dd
  by_cases q : dup L (i + 1)
  · rw [if_pos q, if_pos (h.2 q)]
  · rw [if_neg q, if_neg (fun z => q (h.1 z))]
theorem wi_yes (L : List Ent) (i j : Nat) (h : ek (L.getD j e0) = ek (L.getD i e0)) : wi L i (j + 1) = 4 := by
  unfold wi
  rw [if_pos (.inr ⟨j, by omega, h⟩)]
theorem wi_no (L : List Ent) (i j : Nat) (h : ¬ ek (L.getD j e0) = ek (L.getD i e0)) : wi L i (j + 1) = wi L i j := by
  have k : (dup L i ∨ ∃ x, x < j + 1 ∧ ek (L.getD x e0) = ek (L.getD i e0)) ↔ (dup L i ∨ ∃ x, x < j ∧ ek (L.getD x e0) = ek (L.getD i e0)) := by
    constructor
    · rintro (q | ⟨x, hx, e⟩)
      · exact .inl q
      · rcases Nat.lt_succ_iff_lt_or_eq.1 hx with z | z
        · exact .inr ⟨x, z, e⟩
        · subst z; exact absurd e h
    · rintro (q | ⟨x, hx, e⟩)
      · exact .inl q
      · exact .inr ⟨x, by omega, e⟩
  unfold wi
  by_cases q : dup L i ∨ ∃ x, x < j ∧ ek (L.getD x e0) = ek (L.getD i e0)
  · rw [if_pos q, if_pos (k.2 q)]
  · rw [if_neg q, if_neg (fun z => q (k.1 z))]
/-- Two keys are one if their four parts are. -/
theorem ek_eq (a b c d i o s a' b' c' d' i' o' s' : Int) : ek (a, b, c, d, i, o, s) = ek (a', b', c', d', i', o', s') ↔ c = c' ∧ d = d' ∧ b = b' ∧ i = i' := by
  constructor
  · exact ky_inj
  · rintro ⟨rfl, rfl, rfl, rfl⟩
    rfl
end Go.Proofs.Ythjhiogbnacmdaa.aud
