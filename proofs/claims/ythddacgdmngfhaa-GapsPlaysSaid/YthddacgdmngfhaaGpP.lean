/- Layer 16: numbers in one order and in another one. -/
import Derived.Test.YthddacgdmngfhaaGpO
namespace Go.Proofs.Ythddacgdmngfhaa.gap
open Go.Sort (grow)
open Go.ChangeShapes Go.WideShapes Go.ChangeAt Go.RowKit kit gapm
set_option maxRecDepth 100000
/-- So many steps from where all came to a number. -/
def stepsTo (c x : Nat) : Nat := (x + 4294967296 - c) % 4294967296
theorem ab_steps {C c x : Nat} (hc : c ≤ 4294967296) : ab C (c + stepsTo c x) = ab C x := by
  unfold ab stepsTo
  congr 1
  omega
theorem add_has {s : St} (hok : s.Ok) {x : Nat} (hx : x ≤ 256) (hc : s.c ≤ 256) : (addS s (stepsTo s.c x)).Ok ∧ (∀ y, (addS s (stepsTo s.c x)).has y ↔ y = x ∨ s.has y) ∧ (addS s (stepsTo s.c x)).P.length ≤ s.P.length + 1 := by
  by_cases h : lookV s (stepsTo s.c x) = 1
  · have e : addS s (stepsTo s.c x) = add s (s.c + stepsTo s.c x) := by unfold addS; rw [if_pos h]
    obtain ⟨h1, h2, h3⟩ := look_new h
    have hxe : s.c + stepsTo s.c x = x := by unfold stepsTo at *; omega
    rw [e, hxe]
    rw [hxe] at h3
    obtain ⟨q1, q2, _, q4⟩ := add_ok hok (by omega) h3
    exact ⟨q1, q2, q4⟩
  · have e : addS s (stepsTo s.c x) = s := by unfold addS; rw [if_neg h]
    rw [e]
    refine ⟨hok, fun y => ⟨fun q => .inr q, fun q => ?_⟩, Nat.le_succ _⟩
    rcases q with rfl | q
    · -- it came before
      by_cases hy : y ≤ s.c
      · exact .inl hy
      · have hd : stepsTo s.c y = y - s.c := by unfold stepsTo; omega
        rw [hd] at h
        unfold lookV at h
        rw [if_neg (by omega), if_neg (by omega), show s.c + (y - s.c) = y by omega] at h
        by_cases hm : memB s.P y = true
        · exact .inr (memB_iff.1 hm)
        · rw [if_neg hm] at h
          exact absurd rfl h
    · exact q
theorem addD_len (s : St) (D : List Int) (d : Nat) (t : Int) (h : D.length ≤ 16) : (addD s D d t).length ≤ 16 := by
  unfold addD
  split
  · rename_i q
    simp only [List.length_append, List.length_cons, List.length_nil]
    omega
  · exact h
theorem has_bd {s : St} (hok : s.Ok) (h : ∀ y, s.has y → y ≤ 256) : s.c ≤ 256 ∧ Bd s.P :=
  ⟨h s.c (.inl (Nat.le_refl _)), bd_of hok (fun y hy => by have := h y (.inr hy); omega) (Nat.le_refl (536870912 : Nat)) |> fun q => q⟩
/-- Two that don't lie over one another. -/
def Apart (g1 g2 : Nat) (p1 d1 p2 d2 : Value) : Prop := ∀ k, (k = g1 ∨ p1.ownBlock = some k ∨ d1.ownBlock = some k) → k ≠ g2 ∧ p2.ownBlock ≠ some k ∧ d2.ownBlock ≠ some k
theorem Gt.lt {b0 g C : Nat} {s : St} {D : List Int} {pv dv : Value} {w : World} (h : Gt b0 g C s D pv dv w) : ∀ k, (k = g ∨ pv.ownBlock = some k ∨ dv.ownBlock = some k) → k < w.heap.size := by
  rintro k (rfl | hk | hk)
  · exact h.B.lt
  · exact own_lt' h.p hk
  · exact own_lt' h.d hk
/-- The second one stays while the first one turns. -/
theorem Gt.stays {b1 b2 g1 g2 C1 C2 : Nat} {s1 s2 : St} {D1 D2 : List Int} {p1 d1 p1' d1' p2 d2 : Value} {w w' : World} (h1 : Gt b1 g1 C1 s1 D1 p1 d1 w) (h2 : Gt b2 g2 C2 s2 D2 p2 d2 w) (u : Up g1 p1 d1 w p1' d1' w') (hA : Apart g1 g2 p1 d1 p2 d2) : Gt b2 g2 C2 s2 D2 p2 d2 w' ∧ Apart g1 g2 p1' d1' p2 d2 := by
  refine ⟨h2.frame (fun k hk => u.keep k (h2.lt k hk) (fun e => ?_) (fun e => ?_) (fun e => ?_)), fun k hk => ?_⟩
  · have := hA k (.inl e)
    rcases hk with q | q | q
    · exact this.1 q
    · exact this.2.1 q
    · exact this.2.2 q
  · have := hA k (.inr (.inl e))
    rcases hk with q | q | q
    · exact this.1 q
    · exact this.2.1 q
    · exact this.2.2 q
  · have := hA k (.inr (.inr e))
    rcases hk with q | q | q
    · exact this.1 q
    · exact this.2.1 q
    · exact this.2.2 q
  · have far : w.heap.size ≤ k → k ≠ g2 ∧ p2.ownBlock ≠ some k ∧ d2.ownBlock ≠ some k := fun h => ⟨fun e => by have := h2.lt k (.inl e); omega, fun e => by have := h2.lt k (.inr (.inl e)); omega, fun e => by have := h2.lt k (.inr (.inr e)); omega⟩
    rcases hk with q | q | q
    · exact hA k (.inl q)
    · rcases u.np k q with r | r
      · exact hA k (.inr (.inl r))
      · exact far r
    · rcases u.nd k q with r | r
      · exact hA k (.inr (.inr r))
      · exact far r
theorem Apart.symm {g1 g2 : Nat} {p1 d1 p2 d2 : Value} (h : Apart g1 g2 p1 d1 p2 d2) : Apart g2 g1 p2 d2 p1 d1 := by
  intro k hk
  refine ⟨fun e => ?_, fun e => ?_, fun e => ?_⟩
  · have := h k (.inl e)
    rcases hk with q | q | q
    · exact this.1 q
    · exact this.2.1 q
    · exact this.2.2 q
  · have := h k (.inr (.inl e))
    rcases hk with q | q | q
    · exact this.1 q
    · exact this.2.1 q
    · exact this.2.2 q
  · have := h k (.inr (.inr e))
    rcases hk with q | q | q
    · exact this.1 q
    · exact this.2.1 q
    · exact this.2.2 q
/-- One of the two within the loop: what came of it. -/
structure Cm (G g C : Nat) (S : Nat → Prop) (m : Nat) (s : St) (D : List Int) (pv dv : Value) (w : World) : Prop where
  t : Gt G g C s D pv dv w
  ok : s.Ok
  has : ∀ y, s.has y ↔ y = 0 ∨ S y
  bd : ∀ y, S y → y ≤ 256
  len : s.P.length ≤ m
  dl : D.length ≤ 16
theorem Cm.fine {G g C m : Nat} {S : Nat → Prop} {s : St} {D : List Int} {pv dv : Value} {w : World} (h : Cm G g C S m s D pv dv w) : s.c ≤ 256 ∧ Bd s.P := has_bd h.ok fun y hy => by
  rcases (h.has y).1 hy with e | e
  · omega
  · exact h.bd y e
theorem Cm.turn {G g C m : Nat} {S S' : Nat → Prop} {s : St} {D : List Int} {pv dv pv' dv' : Value} {w w' : World} (h : Cm G g C S m s D pv dv w) (x : Nat) (hx : x ≤ 256) (hS : ∀ y, S' y ↔ y = x ∨ S y) (h' : Gt G g C (addS s (stepsTo s.c x)) (addD s D (stepsTo s.c x) (ab C x)) pv' dv' w') : Cm G g C S' (m + 1) (addS s (stepsTo s.c x)) (addD s D (stepsTo s.c x) (ab C x)) pv' dv' w' := by
  obtain ⟨q1, q2, q3⟩ := add_has h.ok hx h.fine.1
  refine ⟨h', q1, fun y => ?_, fun y hy => ?_, by have := h.len; omega, addD_len _ _ _ _ h.dl⟩
  · rw [q2, h.has, hS]
    constructor
    · rintro (q | q | q)
      · exact .inr (.inl q)
      · exact .inl q
      · exact .inr (.inr q)
    · rintro (q | q | q)
      · exact .inr (.inl q)
      · exact .inl q
      · exact .inr (.inr q)
  · rcases (hS y).1 hy with q | q
    · omega
    · exact h.bd y q
/-- Add, within the loop. -/
theorem Cm.add {G g C m : Nat} {S : Nat → Prop} {s : St} {D : List Int} {pv dv : Value} {w : World} (h : Cm G g C S m s D pv dv w) (hm : m ≤ 1000) (x : Nat) (hx : x ≤ 256) : Calls Try.prog 41 #[.pointer (some ⟨g, 0, none⟩), .int .u32 (ab C x)] w fun e w' => ∃ r, e = .returned r ∧ JoS G g C (addS s (stepsTo s.c x)) (addD s D (stepsTo s.c x) (ab C x)) pv dv w w' := by
  have hc := h.fine.1
  have := add_any h.t (stepsTo s.c x) (by unfold stepsTo; omega) h.ok (by have := h.len; omega) h.fine.2 (by omega) h.dl
  rw [ab_steps (by omega)] at this
  exact this.mono fun e w' ⟨he, hj⟩ => ⟨_, he, hj⟩
end Go.Proofs.Ythddacgdmngfhaa.gap
