/- Layer 37: what must hold of what was read; those of a list that are so. -/
import Derived.Test.YthjhiogbnacmdaaMoA
namespace Go.Proofs.Ythjhiogbnacmdaa.mo
open Go.Sort (grow)
open Go.ChangeShapes Go.WideShapes Go.ChangeAt Go.RowKit kit cut
set_option maxRecDepth 100000

/-- Those of a stream that are in order. -/
def fil (s : Int) (L : List Ms) : List Ms := L.filter fun x => !x.lo && decide (x.s = s)
/-- What is right of a stream. -/
def OrdS (s : Int) (A R : List Ms) : Prop := ((fil s R).map (·.d)) <+: ((fil s A).map (·.d))
theorem prefix_snoc {α : Type} {A B : List α} {a : α} : (A ++ [a]) <+: B ↔ A <+: B ∧ B[A.length]? = some a := by
  constructor
  · rintro ⟨t, rfl⟩
    exact ⟨⟨[a] ++ t, by simp⟩, by simp⟩
  · rintro ⟨⟨t, rfl⟩, h⟩
    rw [List.getElem?_append_right (Nat.le_refl _), Nat.sub_self] at h
    cases t with
    | nil => simp at h
    | cons b r =>
      obtain rfl : b = a := by simpa using h
      exact ⟨r, by simp⟩
theorem fil_snoc (s : Int) (L : List Ms) (x : Ms) : fil s (L ++ [x]) = if (!x.lo && decide (x.s = s)) = true then fil s L ++ [x] else fil s L := by
  unfold fil
  rw [List.filter_append]
  by_cases h : (!x.lo && decide (x.s = s)) = true
  · rw [if_pos h]
    simp [h]
  · rw [if_neg h]
    simp [h]
/-- One more that is read of a stream. -/
theorem ord_step {s : Int} {A R : List Ms} {x : Ms} (h : (!x.lo && decide (x.s = s)) = true) : OrdS s A (R ++ [x]) ↔ OrdS s A R ∧ ∃ y, (fil s A)[(fil s R).length]? = some y ∧ y.d = x.d := by
  unfold OrdS
  rw [fil_snoc, if_pos h, List.map_append]
  show _ ++ [x.d] <+: _ ↔ _
  rw [prefix_snoc, List.length_map, List.getElem?_map]
  constructor
  · rintro ⟨h1, h2⟩
    refine ⟨h1, ?_⟩
    cases hy : (fil s A)[(fil s R).length]? with
    | none => rw [hy] at h2; cases h2
    | some y => rw [hy] at h2; exact ⟨y, rfl, Option.some.inj h2⟩
  · rintro ⟨h1, y, hy, hd⟩
    exact ⟨h1, by rw [hy]; exact congrArg some hd⟩
theorem ord_skip {s : Int} {A R : List Ms} {x : Ms} (h : ¬ (!x.lo && decide (x.s = s)) = true) : OrdS s A (R ++ [x]) ↔ OrdS s A R := by
  unfold OrdS
  rw [fil_snoc, if_neg h]
theorem ord_nil (s : Int) (A : List Ms) : OrdS s A [] := List.nil_prefix
theorem ord_take {s : Int} {A R : List Ms} (h : OrdS s A R) (k : Nat) : OrdS s A (R.take k) := by
  refine List.IsPrefix.trans ?_ h
  have : (fil s (R.take k)) <+: fil s R := (List.take_prefix k R).filter _
  exact this.map _
/-- Where the next one of a stream is. -/
theorem fil_at {s : Int} {A : List Ms} {k : Nat} {y : Ms} (hy : A[k]? = some y) (h : (!y.lo && decide (y.s = s)) = true) : (fil s A)[(fil s (A.take k)).length]? = some y := by
  have e : A = A.take k ++ ([y] ++ A.drop (k + 1)) := by
    have hk := (List.getElem?_eq_some_iff.1 hy).1
    conv => lhs; rw [← List.take_append_drop k A]
    congr 1
    rw [List.drop_eq_getElem_cons hk]
    congr 1
    exact (List.getElem?_eq_some_iff.1 hy).2
  have e2 : fil s A = fil s (A.take k) ++ ([y] ++ fil s (A.drop (k + 1))) := by
    conv => lhs; rw [e]
    unfold fil
    rw [List.filter_append, List.filter_append]
    simp [h]
  rw [e2, List.getElem?_append_right (Nat.le_refl _), Nat.sub_self]
  rfl
theorem fil_all {s : Int} {L : List Ms} (h : ∀ x ∈ L, x.lo = false) : fil s L = L.filter fun x => decide (x.s = s) := by
  unfold fil
  apply List.filter_congr
  intro x hx
  rw [h x hx]
  rfl
theorem fil_filter (s : Int) (L : List Ms) : fil s (L.filter fun x => !x.lo) = fil s L := by
  unfold fil
  rw [List.filter_filter]
  apply List.filter_congr
  intro x _
  cases x.lo <;> simp
/-- What is in order is right. -/
def Ord (A R : List Ms) : Prop := ∀ s, OrdS s A R
theorem ord_two {A R : List Ms} (h : ∀ x ∈ R, x.s = 0 ∨ x.s = 1) : Ord A R ↔ OrdS 0 A R ∧ OrdS 1 A R := by
  constructor
  · exact fun q => ⟨q 0, q 1⟩
  · rintro ⟨h0, h1⟩ s
    by_cases e0 : s = 0
    · subst e0; exact h0
    · by_cases e1 : s = 1
      · subst e1; exact h1
      · have : fil s R = [] := by
          unfold fil
          rw [List.filter_eq_nil_iff]
          intro x hx hc
          simp only [Bool.and_eq_true, decide_eq_true_eq] at hc
          rcases h x hx with q | q <;> omega
        unfold OrdS
        rw [this]
        exact List.nil_prefix
theorem ord_filter (A R : List Ms) : Ord (A.filter fun x => !x.lo) (R.filter fun x => !x.lo) ↔ Ord A R := by
  unfold Ord OrdS
  constructor
  · intro h s
    have := h s
    rwa [fil_filter, fil_filter] at this
  · intro h s
    rw [fil_filter, fil_filter]
    exact h s
/-- The same message. -/
def eqM (x y : Ms) : Bool := decide (x.s = y.s) && decide (x.lo = y.lo) && decide (x.d = y.d)
theorem eqM_iff (x y : Ms) : eqM x y = true ↔ x = y := by
  unfold eqM
  simp only [Bool.and_eq_true, decide_eq_true_eq]
  constructor
  · rintro ⟨⟨h1, h2⟩, h3⟩
    exact Ms.ext' h1 h2 h3
  · rintro rfl
    exact ⟨⟨rfl, rfl⟩, rfl⟩
/-- How many are this one. -/
def cM (x : Ms) (L : List Ms) : Nat := L.countP fun y => eqM y x
theorem cM_snoc (x : Ms) (L : List Ms) (y : Ms) : cM x (L ++ [y]) = cM x L + if eqM y x = true then 1 else 0 := by
  unfold cM
  rw [List.countP_append, List.countP_singleton]
theorem cM_le (x : Ms) (L : List Ms) : cM x L ≤ L.length := List.countP_le_length
/-- What is out of order is right. -/
def Lse (A R : List Ms) : Prop := ∀ x ∈ R, x.lo = true → cM x R ≤ cM x A
theorem cM_filter {x : Ms} (h : x.lo = true) (L : List Ms) : cM x (L.filter fun y => y.lo) = cM x L := by
  unfold cM
  rw [List.countP_filter]
  apply List.countP_congr
  intro y _
  constructor
  · intro q
    simp only [Bool.and_eq_true] at q
    exact q.1
  · intro q
    simp only [Bool.and_eq_true]
    refine ⟨q, ?_⟩
    rw [(eqM_iff y x).1 q]
    exact h
theorem lse_filter (A R : List Ms) : Lse A R ↔ ∀ x, cM x (R.filter fun y => y.lo) ≤ cM x (A.filter fun y => y.lo) := by
  constructor
  · intro h x
    by_cases hx : x ∈ R.filter fun y => y.lo
    · have hx' := List.mem_filter.1 hx
      rw [cM_filter hx'.2, cM_filter hx'.2]
      exact h x hx'.1 hx'.2
    · have : cM x (R.filter fun y => y.lo) = 0 := by
        unfold cM
        rw [List.countP_eq_zero]
        intro y hy q
        rw [(eqM_iff y x).1 q] at hy
        exact hx hy
      omega
  · intro h x hx hl
    have := h x
    rwa [cM_filter hl, cM_filter hl] at this
end Go.Proofs.Ythjhiogbnacmdaa.mo
