/- Layer 4: which bytes are a parameter, and which one (no walk). -/
import Derived.Test.YtlpklnjnfeodaaaTake
namespace Go.Proofs.Ytlpklnjnfeodaaa.par
open Go.ChangeShapes Go.WideShapes Go.ChangeAt Go.RowKit kit oct

theorem failE_ne {e x : Int} (hx : x ≠ 0) : failE e x ≠ 0 := by
  unfold failE; split
  · rename_i h; rcases h with h | h
    · exact h
    · exact absurd h hx
  · exact hx
theorem rdE_0 {l : ByteArray} {e : Int} {k : Nat} (h : rdE l e k = 0) : k ≤ l.size ∧ e = 0 := by
  unfold rdE at h
  by_cases c : k ≤ l.size
  · rw [if_pos c] at h; exact ⟨c, h⟩
  · rw [if_neg c] at h; exact absurd h (failE_ne (by decide))
theorem fE_0 {b : Bool} {e x : Int} (hx : x ≠ 0) (h : fE b e x = 0) : b = false ∧ e = 0 := by
  cases b with
  | true => exact absurd h (failE_ne hx)
  | false => exact ⟨rfl, h⟩
theorem kE_0 {l : ByteArray} {e n : Int} (h : kE l e n = 0) : (0 ≤ n ∧ n ≤ l.size) ∧ e = 0 := by
  unfold kE at h
  by_cases c : 0 ≤ n ∧ n ≤ l.size
  · rw [if_pos c] at h; exact ⟨c, h⟩
  · rw [if_neg c] at h; exact absurd h (failE_ne (by decide))
theorem fillE_0 {l : ByteArray} {e n : Int} (h : fillE l e n = 0) : l.extract 0 (fk l n) = zeros (fk l n) ∧ e = 0 := by
  unfold fillE at h
  by_cases c : l.extract 0 (fk l n) = zeros (fk l n)
  · rw [if_pos c] at h; exact ⟨c, h⟩
  · rw [if_neg c] at h; exact absurd h (failE_ne (by decide))

/-- That bytes begin with a parameter of Z bytes, filled up by p. -/
structure IsP (l : ByteArray) (Z p : Nat) : Prop where
  four : 4 ≤ l.size
  size : numV (l.extract 2 4).data.toList = Z
  lo : 4 ≤ Z
  hi : Z ≤ 1004
  pad : (p : Int) = -(Z : Int) % 4
  room : Z + p ≤ l.size
  noughts : l.extract Z (Z + p) = zeros p

theorem ext_ext (l : ByteArray) (a b c d : Nat) (hb : b = l.size) (hd : a + d ≤ l.size) : (l.extract a b).extract c d = l.extract (a + c) (a + d) := by
  subst hb
  apply ByteArray.ext
  simp
  congr 1
  have : l.data.size = l.size := rfl
  omega

theorem head_of {l : ByteArray} (h : 4 ≤ l.size) : tl1 l 0 = l.extract 2 l.size ∧ te1 l 0 = 0 ∧ tZ l 0 = (numV (l.extract 2 4).data.toList : Nat) ∧ tl2 l 0 = l.extract 4 l.size ∧ te2 l 0 = 0 ∧ tN l = (numV (l.extract 0 2).data.toList : Nat) := by
  have q1 : tl1 l 0 = l.extract 2 l.size := by unfold tl1 rdL; rw [if_pos (by omega)]
  have z1 : (l.extract 2 l.size).size = l.size - 2 := by simp
  have q2 : te1 l 0 = 0 := by unfold te1 rdE; rw [if_pos (by omega)]
  refine ⟨q1, q2, ?_, ?_, ?_, ?_⟩
  · unfold tZ rdN; rw [q1, if_pos (by omega), take_data, ext_ext l 2 l.size 0 2 rfl (by omega)]
  · unfold tl2 rdL; rw [q1, if_pos (by omega), z1, ext_ext l 2 l.size 2 (l.size - 2) rfl (by omega), show 2 + (l.size - 2) = l.size by omega]
  · unfold te2 rdE; rw [q1, q2, if_pos (by omega)]
  · unfold tN rdN; rw [if_pos (by omega), take_data]

theorem take_good {l : ByteArray} {Z p : Nat} (H : IsP l Z p) : pe6 l 0 = 0 ∧ pV l 0 = l.extract 4 Z ∧ pl6 l 0 = l.extract (Z + p) l.size := by
  obtain ⟨h4, hZ, lo, hi, hp, hs, hz⟩ := H
  obtain ⟨q1, q2, q3, q4, q5, q6⟩ := head_of h4
  rw [hZ] at q3
  have zb : zB (tZ l 0) = false := by rw [q3]; unfold zB; simp; omega
  have r3 : pl3 l 0 = l.extract 4 l.size := by unfold pl3 fL; rw [zb, q4]; rfl
  have s3 : pe3 l 0 = 0 := by unfold pe3 fE; rw [zb, q5]; rfl
  have z3 : (l.extract 4 l.size).size = l.size - 4 := by simp
  have inr : 0 ≤ tZ l 0 - 4 ∧ tZ l 0 - 4 ≤ ((l.extract 4 l.size).size : Int) := by rw [q3, z3]; omega
  have tn : (tZ l 0 - 4).toNat = Z - 4 := by rw [q3]; omega
  have r4 : pl4 l 0 = l.extract Z l.size := by
    unfold pl4 kL; rw [r3, if_pos inr, tn, z3, ext_ext l 4 l.size (Z - 4) (l.size - 4) rfl (by omega), show 4 + (Z - 4) = Z by omega, show 4 + (l.size - 4) = l.size by omega]
  have s4 : pe4 l 0 = 0 := by unfold pe4 kE; rw [r3, if_pos inr, s3]
  have v4 : pV l 0 = l.extract 4 Z := by
    unfold pV kV; rw [r3, if_pos inr, tn, ext_ext l 4 l.size 0 (Z - 4) rfl (by omega), show 4 + (Z - 4) = Z by omega]
  have z4 : (l.extract Z l.size).size = l.size - Z := by simp
  have pb : pB l 0 = false := by unfold pB; rw [r4, z4, q3]; simp; omega
  have r5 : pl5 l 0 = l.extract Z l.size := by unfold pl5 fL; rw [pb, r4]; rfl
  have s5 : pe5 l 0 = 0 := by unfold pe5 fE; rw [pb, s4]; rfl
  have fkp : fk (l.extract Z l.size) (tZ l 0) = p := by unfold fk; rw [q3, z4]; omega
  have cond : (l.extract Z l.size).extract 0 p = zeros p := by rw [ext_ext l Z l.size 0 p rfl (by omega)]; exact hz
  refine ⟨?_, v4, ?_⟩
  · unfold pe6 fillE; rw [r5, fkp, if_pos cond, s5]
  · unfold pl6 fillL; rw [r5, fkp, if_pos cond, z4, ext_ext l Z l.size p (l.size - Z) rfl (by omega), show Z + (l.size - Z) = l.size by omega]

theorem take_ok {l : ByteArray} {e : Int} (h : pe6 l e = 0) : e = 0 ∧ ∃ Z p, IsP l Z p := by
  obtain ⟨h6, h5⟩ := fillE_0 (show fillE (pl5 l e) (pe5 l e) (tZ l e) = 0 from h)
  obtain ⟨hb, h4⟩ := fE_0 (by decide) (show fE (pB l e) (pe4 l e) 2 = 0 from h5)
  obtain ⟨hr, h3⟩ := kE_0 (show kE (pl3 l e) (pe3 l e) (tZ l e - 4) = 0 from h4)
  obtain ⟨hz, h2⟩ := fE_0 (by decide) (show fE (zB (tZ l e)) (te2 l e) 3 = 0 from h3)
  obtain ⟨g2, h1⟩ := rdE_0 (show rdE (tl1 l e) (te1 l e) 2 = 0 from h2)
  obtain ⟨g1, h0⟩ := rdE_0 (show rdE l e 2 = 0 from h1)
  subst h0
  have q1 : tl1 l 0 = l.extract 2 l.size := by unfold tl1 rdL; rw [if_pos g1]
  have z1 : (l.extract 2 l.size).size = l.size - 2 := by simp
  have f4 : 4 ≤ l.size := by rw [q1, z1] at g2; omega
  obtain ⟨_, _, q3, q4, q5, q6⟩ := head_of f4
  obtain ⟨Z, hZ⟩ : ∃ Z, numV (l.extract 2 4).data.toList = Z := ⟨_, rfl⟩
  rw [hZ] at q3
  have lohi : 4 ≤ Z ∧ Z ≤ 1004 := by
    rw [q3] at hz; unfold zB at hz
    have : ¬ ((Z : Int) < 4 ∨ 1004 < (Z : Int)) := by simpa using hz
    omega
  have zb : zB (tZ l 0) = false := hz
  have r3 : pl3 l 0 = l.extract 4 l.size := by unfold pl3 fL; rw [zb, q4]; rfl
  have z3 : (l.extract 4 l.size).size = l.size - 4 := by simp
  rw [r3, z3, q3] at hr
  have tn : (tZ l 0 - 4).toNat = Z - 4 := by rw [q3]; omega
  have inr : 0 ≤ tZ l 0 - 4 ∧ tZ l 0 - 4 ≤ ((l.extract 4 l.size).size : Int) := by rw [q3, z3]; omega
  have r4 : pl4 l 0 = l.extract Z l.size := by
    unfold pl4 kL; rw [r3, if_pos inr, tn, z3, ext_ext l 4 l.size (Z - 4) (l.size - 4) rfl (by omega), show 4 + (Z - 4) = Z by omega, show 4 + (l.size - 4) = l.size by omega]
  have z4 : (l.extract Z l.size).size = l.size - Z := by simp
  have pb : pB l 0 = false := hb
  have pb' := pb
  unfold pB at pb'
  rw [r4, z4, q3] at pb'
  have pb2 : ¬ (((l.size - Z : Nat) : Int) < -(Z : Int) % 4) := by simpa using pb'
  obtain ⟨p, hp⟩ : ∃ p : Nat, (p : Int) = -(Z : Int) % 4 := ⟨(-(Z : Int) % 4).toNat, by omega⟩
  have r5 : pl5 l 0 = l.extract Z l.size := by unfold pl5 fL; rw [pb, r4]; rfl
  have fkp : fk (l.extract Z l.size) (tZ l 0) = p := by unfold fk; rw [q3, z4]; omega
  rw [r5, fkp, ext_ext l Z l.size 0 p rfl (by omega)] at h6
  exact ⟨rfl, Z, p, f4, hZ, lohi.1, lohi.2, hp, by omega, h6⟩
end Go.Proofs.Ytlpklnjnfeodaaa.par
