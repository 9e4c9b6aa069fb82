/- Layer 37: what is wrong of what was read. -/
import Derived.Test.YthjhiogbnacmdaaMoJ
import Derived.Test.YthjhiogbnacmdaaMoE
import Derived.Test.YthjhiogbnacmdaaMoF
import Derived.Test.YthjhiogbnacmdaaMoB
namespace Go.Proofs.Ythjhiogbnacmdaa.mo
open Go.Sort (grow)
open Go.ChangeShapes Go.WideShapes Go.ChangeAt Go.RowKit kit cut
set_option maxRecDepth 100000

open Classical in
noncomputable def oV (A R : List Ms) : Int := if Ord A R then 0 else 1
open Classical in
noncomputable def lV (A R : List Ms) : Int := if Lse A R then 0 else 2
theorem oV_yes {A R : List Ms} (h : Ord A R) : oV A R = 0 := by unfold oV; rw [if_pos h]
theorem oV_no {A R : List Ms} (h : ¬ Ord A R) : oV A R = 1 := by unfold oV; rw [if_neg h]
theorem lV_yes {A R : List Ms} (h : Lse A R) : lV A R = 0 := by unfold lV; rw [if_pos h]
theorem lV_no {A R : List Ms} (h : ¬ Lse A R) : lV A R = 2 := by unfold lV; rw [if_neg h]
theorem oV_or (A R : List Ms) : oV A R = 0 ∨ oV A R = 1 := by
  by_cases h : Ord A R
  · exact .inl (oV_yes h)
  · exact .inr (oV_no h)
def Few (L : List Ms) : Prop := L.length ≤ 20 ∧ ∀ x ∈ L, (x.s = 0 ∨ x.s = 1) ∧ x.d.size ≤ 2
theorem few_filter {L : List Ms} (h : Few L) (p : Ms → Bool) : Few (L.filter p) := ⟨Nat.le_trans (List.length_filter_le p L) h.1, fun x hx => h.2 x (List.mem_filter.1 hx).1⟩
set_option maxHeartbeats 4000000 in
theorem held_any {w : World} {bA bR : Nat} {vA vR : Value} {A R : List Ms} (qA : QM w bA vA A) (qR : QM w bR vR R) (fA : Few A) (fR : Few R) :
    Calls Try.prog 15 #[vA, vR] w fun e w' => e = .returned (.int .i64 (oV A R + lV A R)) ∧ Below w.heap.size w w' := by
  obtain ⟨oA, cA, hva, -, -⟩ := qA.shape
  obtain ⟨oR, cR, hvr, -, -⟩ := qR.shape
  obtain ⟨nA, hnA⟩ : ∃ n, A.length = n := ⟨_, rfl⟩
  obtain ⟨nR, hnR⟩ : ∃ n, R.length = n := ⟨_, rfl⟩
  rw [hnA] at hva
  rw [hnR] at hvr
  subst hva hvr
  obtain ⟨B0, hB0⟩ : ∃ B0, w.heap.size = B0 := ⟨_, rfl⟩
  have HA := Lib.hid (show ∀ w', Below B0 w w' → QM w' bA (.slice oA nA cA) A from fun w' h => qA.below h (by omega))
  have HR := Lib.hid (show ∀ w', Below B0 w w' → QM w' bR (.slice oR nR cR) R from fun w' h => qR.below h (by omega))
  have HFA := Lib.hid fA
  have HFR := Lib.hid fR
  have bel : Below B0 w w := Below.refl _ _
  have h1 := inOrder_any (HA.out _ bel) fA.1
  rw [hB0] at h1 ⊢
  have HB0 := Lib.hid hB0
  clear qA qR hnA hnR fA fR hB0
  go_enter Try.func15, Try.ntmps15
  go_wp2_with fail
  refine h1.mono ?_
  rintro e w1 ⟨⟨v1, rfl, q1⟩, bel1⟩
  obtain ⟨o1, c1, hv1, -, -⟩ := q1.shape
  subst hv1
  have h2 := inOrder_any (HR.out _ bel1) HFR.out.1
  obtain ⟨n1, hn1⟩ : ∃ n, (A.filter fun y => !y.lo).length = n := ⟨_, rfl⟩
  rw [hn1] at q1
  try rw [hn1]
  clear h1 bel
  go_wp2_with fail
  refine h2.mono ?_
  rintro e w2 ⟨⟨v2, rfl, q2⟩, hb2⟩
  obtain ⟨o2, c2, hv2, -, -⟩ := q2.shape
  subst hv2
  have bel2 := bel1.trans (hb2.mono (by rw [← HB0.out]; exact bel1.size))
  have q1' : QM w2 B0 (.slice o1 n1 c1) (A.filter fun y => !y.lo) := q1.below hb2 (Nat.le_refl _)
  have h3 := ordered_any q1' q2 (few_filter HFA.out _).1 (few_filter HFR.out _).1 (fun x hx => by have := (List.mem_filter.1 hx).2; simpa using this) (fun x hx => by have := (List.mem_filter.1 hx).2; simpa using this)
  obtain ⟨n2, hn2⟩ : ∃ n, (R.filter fun y => !y.lo).length = n := ⟨_, rfl⟩
  rw [hn2] at h3
  try rw [hn2]
  have hbs2 := bel2.size
  clear h2 bel1 hb2 q1 q1' q2 hn1 hn2
  go_wp2_with fail
  refine h3.mono ?_
  rintro e w3 ⟨⟨b, rfl, hb⟩, hb3⟩
  have bel3 := bel2.trans (hb3.mono (by rw [← HB0.out]; exact hbs2))
  rw [ord_filter] at hb
  have HO := Lib.hid hb
  clear h3 hb hb3 bel2 hbs2
  go_upto_if 11 with fail
  go_cut [5] (fun s5 wx => s5 = .int .i64 (oV A R) ∧ Below B0 w wx)
  case first =>
    have HB := Lib.hid bel3
    clear bel3
    cases b
    · have hno : ¬ Ord A R := fun h => absurd (HO.out.2 h) Bool.false_ne_true
      have HV := Lib.hid (oV_no hno)
      have b1 : bits .or .i64 0 1 = 1 := by decide
      clear hno
      go_wp2_with fail
      go_meet
      exact ⟨by rw [HV.out], HB.out⟩
    · have HV := Lib.hid (oV_yes (HO.out.1 rfl))
      go_wp2_with fail
      go_meet
      exact ⟨by rw [HV.out], HB.out⟩
  case rest =>
  clear bel3 HO
  obtain ⟨hv, bel3⟩ := hcut
  obtain ⟨ov, hov⟩ : ∃ ov, oV A R = ov := ⟨_, rfl⟩
  have hor := oV_or A R
  rw [hov] at hv hor
  subst hv
  have HOV := Lib.hid hov
  clear hov
  generalize wc = w4 at *
  have hbs3 := bel3.size
  have h1 := loose_any (HA.out _ bel3) HFA.out.1
  go_wp2_with fail
  refine h1.mono ?_
  rintro e w5 ⟨⟨v1, rfl, q1⟩, hb5⟩
  have bel5 := bel3.trans (hb5.mono (by rw [← HB0.out]; exact hbs3))
  obtain ⟨o1, c1, hv1, -, -⟩ := q1.shape
  subst hv1
  have h2 := loose_any (HR.out _ bel5) HFR.out.1
  obtain ⟨n1, hn1⟩ : ∃ n, (A.filter fun y => y.lo).length = n := ⟨_, rfl⟩
  rw [hn1] at q1
  try rw [hn1]
  have hbs5 := bel5.size
  clear h1 bel3 hb5 hbs3
  go_wp2_with fail
  refine h2.mono ?_
  rintro e w6 ⟨⟨v2, rfl, q2⟩, hb6⟩
  obtain ⟨o2, c2, hv2, -, -⟩ := q2.shape
  subst hv2
  have bel6 := bel5.trans (hb6.mono (by rw [← HB0.out]; exact hbs5))
  have q1' : QM w6 _ (.slice o1 n1 c1) (A.filter fun y => y.lo) := q1.below hb6 (Nat.le_refl _)
  have h3 := counted_any q1' q2 (few_filter HFA.out _).1 (few_filter HFR.out _).1 (few_filter HFA.out _).2 (few_filter HFR.out _).2
  obtain ⟨n2, hn2⟩ : ∃ n, (R.filter fun y => y.lo).length = n := ⟨_, rfl⟩
  rw [hn2] at h3
  try rw [hn2]
  have hbs6 := bel6.size
  clear h2 bel5 hb6 q1 q1' q2 hn1 hn2 hbs5
  go_wp2_with fail
  refine h3.mono ?_
  rintro e w7 ⟨⟨b, rfl, hb⟩, hb7⟩
  have HB := Lib.hid (bel6.trans (hb7.mono (by rw [← HB0.out]; exact hbs6)))
  rw [cntP_iff (fun x hx => by have := (List.mem_filter.1 hx).2; simpa using this) (fun x hx => by have := (List.mem_filter.1 hx).2; simpa using this), ← lse_filter] at hb
  have HL := Lib.hid hb
  clear h3 hb hb7 bel6 hbs6
  cases b
  · have HV := Lib.hid (lV_no fun h => absurd (HL.out.2 h) Bool.false_ne_true)
    have b1 : bits .or .i64 ov 2 = ov + 2 := by rcases hor with e | e <;> rw [e] <;> decide
    clear hor
    go_wp2_with fail
    go_ret
    exact ⟨by rw [HV.out, HOV.out]; rfl, HB.out⟩
  · have HV := Lib.hid (lV_yes (HL.out.1 rfl))
    clear hor
    go_wp2_with fail
    go_ret
    exact ⟨by rw [HV.out, HOV.out, Int.add_zero]; rfl, HB.out⟩
end Go.Proofs.Ythjhiogbnacmdaa.mo
