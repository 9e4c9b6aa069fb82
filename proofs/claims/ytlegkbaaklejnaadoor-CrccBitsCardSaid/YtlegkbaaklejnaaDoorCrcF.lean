/- Layer 2: when one bit of sealed bytes is turned, they are not sealed any more: the numbers. -/
import Derived.Test.YtlegkbaaklejnaaDoorCrcE
namespace Go.Proofs.YtlegkbaaklejnaaDoor.crc
open Go.ChangeShapes Go.WideShapes Go.ChangeAt Go.RowKit kit byt

theorem le4_inj {c d : Nat} (hc : c < 4294967296) (hd : d < 4294967296) (h0 : le4 c 0 = le4 d 0) (h1 : le4 c 1 = le4 d 1) (h2 : le4 c 2 = le4 d 2) (h3 : le4 c 3 = le4 d 3) : c = d := by
  have e : ∀ n, le4 c n = le4 d n → c / 256 ^ n % 256 = d / 256 ^ n % 256 := by
    intro n h
    have := congrArg UInt8.toNat h
    unfold le4 at this
    rw [UInt8.toNat_ofNat', UInt8.toNat_ofNat'] at this
    omega
  have e0 := e 0 h0
  have e1 := e 1 h1
  have e2 := e 2 h2
  have e3 := e 3 h3
  simp only [Nat.pow_zero, Nat.div_one, Nat.reducePow] at e0 e1 e2 e3
  omega
theorem put4_at (l : List UInt8) (k c : Nat) (h : k + 4 ≤ l.length) : (put4 l k c)[k]? = some (le4 c 0) ∧ (put4 l k c)[k + 1]? = some (le4 c 1) ∧ (put4 l k c)[k + 2]? = some (le4 c 2) ∧ (put4 l k c)[k + 3]? = some (le4 c 3) := by
  have h0 : k < l.length := by omega
  have h1 : k + 1 < l.length := by omega
  have h2 : k + 2 < l.length := by omega
  have h3 : k + 3 < l.length := by omega
  unfold put4
  refine ⟨?_, ?_, ?_, ?_⟩ <;> simp [List.getElem?_set, h0, h1, h2, h3]
theorem zer_set_out (l : List UInt8) (k j : Nat) (b : UInt8) (hj : j < k ∨ k + 4 ≤ j) : zer (l.set j b) k = (zer l k).set j b := by
  unfold zer
  rw [List.set_comm _ _ (show j ≠ k by omega), List.set_comm _ _ (show j ≠ k + 1 by omega), List.set_comm _ _ (show j ≠ k + 2 by omega), List.set_comm _ _ (show j ≠ k + 3 by omega)]
theorem zer_at_out (l : List UInt8) (k j : Nat) (hj : j < k ∨ k + 4 ≤ j) : (zer l k)[j]? = l[j]? := by
  unfold zer
  rw [List.getElem?_set_ne (by omega), List.getElem?_set_ne (by omega), List.getElem?_set_ne (by omega), List.getElem?_set_ne (by omega)]
theorem put4_at_out (l : List UInt8) (k c j : Nat) (hj : j < k ∨ k + 4 ≤ j) : (put4 l k c)[j]? = l[j]? := by
  unfold put4
  rw [List.getElem?_set_ne (by omega), List.getElem?_set_ne (by omega), List.getElem?_set_ne (by omega), List.getElem?_set_ne (by omega)]
theorem zer_set_in (l : List UInt8) (k j : Nat) (b : UInt8) (h : k + 4 ≤ l.length) (h1 : k ≤ j) (h2 : j < k + 4) : zer (l.set j b) k = zer l k := by
  apply List.ext_getElem?
  intro i
  by_cases hi : i < k ∨ k + 4 ≤ i
  · rw [zer_at_out _ _ _ hi, zer_at_out _ _ _ hi, List.getElem?_set_ne (by omega)]
  · have a : zer (l.set j b) k = put4 (l.set j b) k 0 := rfl
    have c : zer l k = put4 l k 0 := rfl
    obtain ⟨a0, a1, a2, a3⟩ := put4_at (l.set j b) k 0 (by simpa using h)
    obtain ⟨c0, c1, c2, c3⟩ := put4_at l k 0 h
    rw [a, c]
    rcases (by omega : i = k ∨ i = k + 1 ∨ i = k + 2 ∨ i = k + 3) with rfl | rfl | rfl | rfl
    · rw [a0, c0]
    · rw [a1, c1]
    · rw [a2, c2]
    · rw [a3, c3]
/-- One byte of sealed bytes is another one: they are not sealed. -/
theorem bent (L : List UInt8) (k j : Nat) (b : UInt8) (h : k + 4 ≤ L.length) (hj : j < L.length) (hb : (sealL L k)[j]? ≠ some b) : sealL ((sealL L k).set j b) k ≠ (sealL L k).set j b := by
  obtain ⟨l, hl⟩ : ∃ l, sealL L k = l := ⟨_, rfl⟩
  have hs : sealL l k = l := by rw [← hl]; exact seal_seal L k h
  have hlen : l.length = L.length := by rw [← hl, seal_len]
  rw [hl] at hb ⊢
  clear hl
  rw [← hlen] at h hj
  intro e
  by_cases hin : j < k ∨ k + 4 ≤ j
  · have hz : k + 4 ≤ (zer l k).length := by rw [zer_len]; exact h
    have e1 : sealL (l.set j b) k = put4 ((zer l k).set j b) k (of ((zer l k).set j b)) := by unfold sealL; rw [zer_set_out l k j b hin]
    have e2 : sealL l k = put4 (zer l k) k (of (zer l k)) := rfl
    rw [e1] at e
    rw [e2] at hs
    obtain ⟨p0, p1, p2, p3⟩ := put4_at ((zer l k).set j b) k (of ((zer l k).set j b)) (by simpa using hz)
    obtain ⟨q0, q1, q2, q3⟩ := put4_at (zer l k) k (of (zer l k)) hz
    rw [e] at p0 p1 p2 p3
    rw [hs] at q0 q1 q2 q3
    rw [List.getElem?_set_ne (by omega)] at p0 p1 p2 p3
    have hc := le4_inj (of_lt _) (of_lt _) (Option.some.inj (p0.symm.trans q0)) (Option.some.inj (p1.symm.trans q1)) (Option.some.inj (p2.symm.trans q2)) (Option.some.inj (p3.symm.trans q3))
    have hr : run ((zer l k).set j b) ones = run (zer l k) ones := by
      have r1 := run_lt ((zer l k).set j b) (c := ones) (by decide)
      have r2 := run_lt (zer l k) (c := ones) (by decide)
      unfold of ones at hc
      unfold ones at r1 r2 ⊢
      omega
    have hj' : j < (zer l k).length := by rw [zer_len]; exact hj
    have ha : (zer l k)[j]? = l[j]? := zer_at_out l k j hin
    have hne : (zer l k)[j] ≠ b := by
      intro x
      rw [List.getElem?_eq_getElem hj', x] at ha
      exact hb ha.symm
    have s1 : zer l k = (zer l k).take j ++ (zer l k)[j] :: (zer l k).drop (j + 1) := by
      rw [← List.drop_eq_getElem_cons hj', List.take_append_drop]
    have s2 : (zer l k).set j b = (zer l k).take j ++ b :: (zer l k).drop (j + 1) := List.set_eq_take_append_cons_drop.trans (by rw [if_pos hj'])
    rw [s2] at hr
    have hr2 : run ((zer l k).take j ++ b :: (zer l k).drop (j + 1)) ones = run ((zer l k).take j ++ (zer l k)[j] :: (zer l k).drop (j + 1)) ones := by rw [hr]; exact congrArg (fun x => run x ones) s1
    exact run_other _ _ (Ne.symm hne) (by decide) hr2
  · have hz := zer_set_in l k j b h (by omega) (by omega)
    have : sealL (l.set j b) k = sealL l k := by unfold sealL; rw [hz]
    rw [this, hs] at e
    have := congrArg (·[j]?) e
    simp [hj] at this
    rw [List.getElem?_eq_getElem hj, this] at hb
    exact hb rfl
end Go.Proofs.YtlegkbaaklejnaaDoor.crc
