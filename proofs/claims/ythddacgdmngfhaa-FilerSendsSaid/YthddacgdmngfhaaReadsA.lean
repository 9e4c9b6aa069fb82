/- The two readers say the same. -/
import Derived.Test.YthddacgdmngfhaaRef3D
namespace Go.Proofs.Ythddacgdmngfhaa.oct
open Go.ChangeShapes Go.WideShapes Go.ChangeAt Go.RowKit kit

theorem ext0 (l : ByteArray) : (l.extract 0 0) = ByteArray.empty := by apply ByteArray.ext; simp
theorem num_same (l : ByteArray) (e : Int) (k : Nat) (h : e ≠ 0 → l = ByteArray.empty) (hk : 0 < k) : tkS l e k = rdL l e k ∧ tkE l e k = rdE l e k ∧ numV (tkR l e k).data.toList = rdN l k := by
  by_cases c : e = 0
  · subst c
    unfold tkS tkE tkR rdL rdE rdN failL failE
    by_cases d : k ≤ l.size
    · have d' : 0 ≤ (k : Int) ∧ (k : Int) ≤ l.size := by omega
      simp [d']
      exact ⟨fun q => by omega, d, fun q => absurd d (by omega)⟩
    · have d' : ¬ (0 ≤ (k : Int) ∧ (k : Int) ≤ l.size) := by omega
      have d2 : ¬ (k : Int) ≤ l.size := by omega
      simp [d, d2, numV]
  · have hl := h c
    subst hl
    unfold tkS tkE tkR rdL rdE rdN failL failE
    have d : ¬ k ≤ ByteArray.empty.size := by simp; omega
    simp [c, numV]
    have : k ≠ 0 := by omega
    simp [this]
theorem take_same (l : ByteArray) (e n : Int) (h : e ≠ 0 → l = ByteArray.empty) :
    tkS l e n = (if 0 ≤ n ∧ n ≤ l.size then l.extract n.toNat l.size else failL l e 2) ∧ tkE l e n = (if 0 ≤ n ∧ n ≤ l.size then e else failE e 2) ∧ tkR l e n = (if 0 ≤ n ∧ n ≤ l.size then l.extract 0 n.toNat else ByteArray.empty) := by
  by_cases c : e = 0
  · subst c
    unfold tkS tkE tkR failL failE
    simp
  · have hl := h c
    subst hl
    unfold tkS tkE tkR failL failE
    simp [c]
    refine ⟨?_, ?_⟩
    · intro h1 h2
      have : n = 0 := by omega
      subst this
      exact (ext0 _).symm
    · intro h1 h2
      have : n = 0 := by omega
      subst this
      exact (ext0 _).symm
theorem rest_same (l : ByteArray) (e : Int) (h : e ≠ 0 → l = ByteArray.empty) : tkS l e l.size = ByteArray.empty ∧ tkE l e l.size = e ∧ tkR l e l.size = l := by
  by_cases c : e = 0
  · subst c
    unfold tkS tkE tkR
    simp
  · have hl := h c
    subst hl
    unfold tkS tkE tkR
    simp [c]
theorem fill_same (l : ByteArray) (e n : Int) (h : e ≠ 0 → l = ByteArray.empty) :
    rfV (tkS l e (fk l n)) (tkE l e (fk l n)) (tkR l e (fk l n)) = .agg #[.string (fillL l e n), .int .i64 (fillE l e n)] := by
  have hk : fk l n ≤ l.size := by unfold fk; omega
  have hk' : 0 ≤ ((fk l n : Nat) : Int) ∧ ((fk l n : Nat) : Int) ≤ l.size := by omega
  obtain ⟨e1, e2, e3⟩ := take_same l e (fk l n) h
  rw [if_pos hk'] at e1 e2 e3
  rw [e1, e2, e3]
  simp only [Int.toNat_natCast]
  have hs : (l.extract 0 (fk l n)).size = fk l n := by simp; omega
  unfold rfV fillL fillE rfS rfE failL failE
  rw [hs]
  by_cases d : l.extract 0 (fk l n) = zeros (fk l n)
  · simp only [d, if_true]
  · simp only [d, if_false]
    by_cases c : e = 0
    · simp [c]
    · simp [c]
theorem tk_inv (l : ByteArray) (e n : Int) (h : e ≠ 0 → l = ByteArray.empty) : tkE l e n ≠ 0 → tkS l e n = ByteArray.empty := by
  intro q
  by_cases c : e = 0
  · subst c
    unfold tkE at q
    unfold tkS
    by_cases d : 0 ≤ n ∧ n ≤ (l.size : Int)
    · simp [d] at q
    · simp [d]
  · unfold tkS
    simp [c, h c]
theorem tk_size (l : ByteArray) (e n : Int) : (tkS l e n).size ≤ l.size := by
  unfold tkS
  split
  · exact Nat.le_refl _
  · split
    · simp
    · simp
theorem rd_inv (l : ByteArray) (e : Int) (k : Nat) (h : e ≠ 0 → l = ByteArray.empty) (hk : 0 < k) : rdE l e k ≠ 0 → rdL l e k = ByteArray.empty := by
  obtain ⟨e1, e2, _⟩ := num_same l e k h hk
  rw [← e1, ← e2]
  exact tk_inv l e k h
theorem rd_size (l : ByteArray) (e : Int) (k : Nat) (h : e ≠ 0 → l = ByteArray.empty) (hk : 0 < k) : (rdL l e k).size ≤ l.size := by
  obtain ⟨e1, _, _⟩ := num_same l e k h hk
  rw [← e1]
  exact tk_size l e k
theorem fill_inv (l : ByteArray) (e n : Int) (h : e ≠ 0 → l = ByteArray.empty) : fillE l e n ≠ 0 → fillL l e n = ByteArray.empty := by
  intro q
  have hk : fk l n ≤ l.size := by unfold fk; omega
  unfold fillE at q
  unfold fillL
  by_cases d : l.extract 0 (fk l n) = zeros (fk l n)
  · rw [if_pos d] at q ⊢
    have hl := h q
    have hx : ∀ a b, ByteArray.empty.extract a b = ByteArray.empty := fun a b => by apply ByteArray.ext; simp
    rw [hl, hx]
  · rw [if_neg d] at q ⊢
    by_cases c : e = 0
    · subst c; rfl
    · have hl := h c
      unfold failL
      rw [if_pos (.inl c)]
      have hx : ∀ a b, ByteArray.empty.extract a b = ByteArray.empty := fun a b => by apply ByteArray.ext; simp
      rw [hl, hx]
theorem fill_size (l : ByteArray) (e n : Int) : (fillL l e n).size ≤ l.size := by
  unfold fillL failL
  split
  · simp
  · split
    · simp
    · simp
end Go.Proofs.Ythddacgdmngfhaa.oct
