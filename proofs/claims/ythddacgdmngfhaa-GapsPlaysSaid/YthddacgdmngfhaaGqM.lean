/- Layer 16: the document's own words, pure: all numbers behind in a list; shifted down while the next one is there. -/
import Derived.Test.YthddacgdmngfhaaGqB
import Derived.Test.YthddacgdmngfhaaGpP
namespace Go.Proofs.Ythddacgdmngfhaa.gap
open kit gapm
def down (F : List Nat) : List Nat := (F.filter fun y => decide (1 < y)).map fun y => y - 1
def hasF (c : Nat) (F : List Nat) (y : Nat) : Prop := y ≤ c ∨ ∃ z ∈ F, c + z = y
theorem mem_down {F : List Nat} {y : Nat} : y ∈ down F ↔ 0 < y ∧ y + 1 ∈ F := by
  unfold down
  rw [List.mem_map]
  constructor
  · rintro ⟨z, hz, rfl⟩
    obtain ⟨h1, h2⟩ := List.mem_filter.1 hz
    have : 1 < z := by simpa using h2
    exact ⟨by omega, by rw [show z - 1 + 1 = z by omega]; exact h1⟩
  · rintro ⟨h0, h1⟩
    exact ⟨y + 1, List.mem_filter.2 ⟨h1, by simpa using h0⟩, by omega⟩
theorem down_has {c : Nat} {F : List Nat} (h : 1 ∈ F) (y : Nat) : hasF (c + 1) (down F) y ↔ hasF c F y := by
  unfold hasF
  constructor
  · rintro (q | ⟨z, hz, rfl⟩)
    · by_cases e : y ≤ c
      · exact .inl e
      · exact .inr ⟨1, h, by omega⟩
    · exact .inr ⟨z + 1, (mem_down.1 hz).2, by omega⟩
  · rintro (q | ⟨z, hz, rfl⟩)
    · exact .inl (by omega)
    · by_cases e : z ≤ 1
      · exact .inl (by omega)
      · exact .inr ⟨z - 1, mem_down.2 ⟨by omega, by rw [show z - 1 + 1 = z by omega]; exact hz⟩, by omega⟩
theorem down_len {F : List Nat} (h : 1 ∈ F) : (down F).length < F.length := by
  unfold down
  rw [List.length_map]
  induction F with
  | nil => cases h
  | cons a r ih =>
    by_cases ha : 1 < a
    · have h1 : 1 ∈ r := by
        rcases List.mem_cons.1 h with e | e
        · omega
        · exact e
      rw [List.filter_cons_of_pos (by simpa using ha)]
      have := ih h1
      simp only [List.length_cons]
      omega
    · rw [List.filter_cons_of_neg (by simpa using ha)]
      have := List.length_filter_le (fun y : Nat => decide (1 < y)) r
      simp only [List.length_cons]
      omega
theorem down_le (F : List Nat) : (down F).length ≤ F.length := by
  unfold down
  rw [List.length_map]
  exact List.length_filter_le _ _
theorem down_snoc (F : List Nat) (k y : Nat) (h : F[k]? = some y) : down (F.take (k + 1)) = down (F.take k) ++ (if 1 < y then [y - 1] else []) := by
  rw [List.take_add_one, h]
  unfold down
  rw [List.filter_append, List.map_append]
  congr 1
  by_cases e : 1 < y <;> simp [e]
/-- The list tells what the parts tell. -/
def Fits (s : St) (F : List Nat) : Prop := ∀ z, z ∈ F ↔ 0 < z ∧ Mem (s.c + z) s.P
theorem Fits.one {s : St} {F : List Nat} (h : Fits s F) (hok : s.Ok) : 1 ∉ F := fun q => by
  have := Inv.mem hok ((h 1).1 q).2
  omega
theorem Fits.zero {s : St} {F : List Nat} (h : Fits s F) : 0 ∉ F := fun q => by have := ((h 0).1 q).1; omega
theorem Fits.has {s : St} {F : List Nat} (h : Fits s F) (hok : s.Ok) (y : Nat) : s.has y ↔ hasF s.c F y := by
  show (y ≤ s.c ∨ Mem y s.P) ↔ _
  unfold hasF
  constructor
  · rintro (q | q)
    · exact .inl q
    · have := Inv.mem hok q
      exact .inr ⟨y - s.c, (h _).2 ⟨by omega, by rw [show s.c + (y - s.c) = y by omega]; exact q⟩, by omega⟩
  · rintro (q | ⟨z, hz, rfl⟩)
    · exact .inl q
    · exact .inr ((h z).1 hz).2
theorem Fits.look {s : St} {F : List Nat} (h : Fits s F) (d : Nat) : lookF F d = lookV s d := by
  unfold lookF lookV
  by_cases h1 : d = 0 ∨ 2147483648 < d
  · rw [if_pos h1, if_pos h1]
  · rw [if_neg h1, if_neg h1]
    have e : (hasB F d = true) ↔ (memB s.P (s.c + d) = true) := by
      rw [hasB_iff, memB_iff, h d]
      exact ⟨fun q => q.2, fun q => ⟨by omega, q⟩⟩
    by_cases h2 : 1000 < d
    · rw [if_pos h2, if_pos h2]
    · rw [if_neg h2, if_neg h2]
      by_cases h3 : hasB F d = true
      · rw [if_pos h3, if_pos (e.1 h3)]
      · rw [if_neg h3, if_neg (fun q => h3 (e.2 q))]
theorem Fits.empty {s : St} {F : List Nat} (h : Fits s F) (hok : s.Ok) : (F.length = 0) ↔ s.P.isEmpty = true := by
  constructor
  · intro h0
    have hF : F = [] := List.length_eq_zero_iff.1 h0
    subst hF
    obtain ⟨c, P⟩ := s
    cases P with
    | nil => rfl
    | cons p r =>
      obtain ⟨f, t⟩ := p
      obtain ⟨i1, i2, i3⟩ := hok
      have i1' : c + 1 < f := i1
      have e : c + (f - c) = f := by omega
      have := (h (f - c)).2 ⟨by omega, ⟨(f, t), by simp, by show f ≤ c + (f - c); omega, by show c + (f - c) ≤ t; omega⟩⟩
      cases this
  · intro hP
    obtain ⟨c, P⟩ := s
    cases P with
    | nil =>
      cases F with
      | nil => rfl
      | cons z r => exact absurd ((h z).1 (by simp)).2 Mem.nil
    | cons p r => cases hP
/-- The same numbers, the next one missing: the list fits. -/
theorem fits_of {s : St} (hok : s.Ok) {c : Nat} {F : List Nat} (h0 : 0 ∉ F) (h1 : 1 ∉ F) (h : ∀ y, s.has y ↔ hasF c F y) : c = s.c ∧ Fits s F := by
  have e : c = s.c := by
    rcases Nat.lt_trichotomy c s.c with q | q | q
    · have := (h (c + 1)).1 (.inl (by omega))
      rcases this with r | ⟨z, hz, r⟩
      · omega
      · obtain rfl : z = 1 := by omega
        exact absurd hz h1
    · exact q
    · have := (h (s.c + 1)).2 (.inl (by omega))
      rcases this with r | r
      · omega
      · have := Inv.mem hok r
        omega
  subst e
  refine ⟨rfl, fun z => ⟨fun hz => ?_, fun ⟨q0, q⟩ => ?_⟩⟩
  · have hz0 : 0 < z := Nat.pos_of_ne_zero fun e => h0 (e ▸ hz)
    rcases (h (s.c + z)).2 (.inr ⟨z, hz, rfl⟩) with r | r
    · omega
    · exact ⟨hz0, r⟩
  · rcases (h (s.c + z)).1 (.inr q) with r | ⟨y, hy, r⟩
    · omega
    · obtain rfl : y = z := by omega
      exact hy
/-- A new number in both. -/
theorem fits_add {s : St} {F : List Nat} (hok : s.Ok) (h : Fits s F) {d c' : Nat} {F' : List Nat} (hd : lookV s d = 1) (h0 : 0 ∉ F') (h1 : 1 ∉ F') (hF : ∀ y, hasF c' F' y ↔ hasF s.c (F ++ [d]) y) : (addS s d).Ok ∧ c' = (addS s d).c ∧ Fits (addS s d) F' := by
  obtain ⟨q1, q2, q3⟩ := look_new hd
  have e : addS s d = add s (s.c + d) := by unfold addS; rw [if_pos hd]
  obtain ⟨r1, r2, _, _⟩ := add_ok hok (by omega) q3
  rw [e]
  refine ⟨r1, fits_of r1 h0 h1 fun y => ?_⟩
  rw [r2, hF, h.has hok]
  unfold hasF
  constructor
  · rintro (q | q | ⟨z, hz, q⟩)
    · exact .inr ⟨d, by simp, q.symm⟩
    · exact .inl q
    · exact .inr ⟨z, by simp [hz], q⟩
  · rintro (q | ⟨z, hz, q⟩)
    · exact .inr (.inl q)
    · rcases List.mem_append.1 hz with hz | hz
      · exact .inr (.inr ⟨z, hz, q⟩)
      · obtain rfl : z = d := by simpa using hz
        exact .inl q.symm
end Go.Proofs.Ythddacgdmngfhaa.gap
