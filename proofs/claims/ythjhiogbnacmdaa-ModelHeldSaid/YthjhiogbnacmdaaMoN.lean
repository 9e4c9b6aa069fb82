/- Layer 37: what is wrong of what was read, when this was sent; walked. -/
import Derived.Test.YthjhiogbnacmdaaMoL
namespace Go.Proofs.Ythjhiogbnacmdaa.mo
open Go.Sort (grow)
open Go.ChangeShapes Go.WideShapes Go.ChangeAt Go.RowKit kit cut
set_option maxRecDepth 100000

theorem tm_few (E : Nat → Ma) (n : Nat) (h : n ≤ 20) : Few (tm E n) := by
  refine ⟨by rw [tm_len]; exact h, fun x hx => ⟨tm_s E n x hx, ?_⟩⟩
  clear h
  induction n with
  | zero => exact absurd hx List.not_mem_nil
  | succ n ih =>
    rw [tm, List.mem_append, List.mem_singleton] at hx
    rcases hx with hx | rfl
    · exact ih hx
    · show ((E n).d.extract 0 (min (E n).d.size 2)).size ≤ 2
      rw [ByteArray.size_extract]
      omega
set_option maxHeartbeats 4000000 in
theorem model_held (oS oR : Option Addr) (aS aR : Addr) (nS cS nR cR : Nat) (ES ER : Nat → Ma) (w : World) (hS : MsR w w.heap.size oS aS nS cS ES) (hR : MsR w w.heap.size oR aR nR cR ER) :
    Calls Try.prog 4 #[.slice oS nS cS, .slice oR nR cR] w fun e w' => e = .returned (.bool true) ∧ Below w.heap.size w w' := by
  obtain ⟨B0, hB0⟩ : ∃ B0, w.heap.size = B0 := ⟨_, rfl⟩
  have h1 := cut37 oS aS nS cS ES w.heap.size w (Nat.le_refl _) hS
  have HR := Lib.hid hR
  rw [hB0] at h1 ⊢
  have HB0 := Lib.hid hB0
  clear hS hR hB0
  go_enter Try.func4, Try.ntmps4
  go_wp2_with fail
  refine h1.mono ?_
  rintro e w1 ⟨⟨v1, rfl, q1⟩, bel1⟩
  have hbs1 := bel1.size
  have h2 := cut37 oR aR nR cR ER w.heap.size w1 hbs1 (HR.out.below (by rw [HB0.out]; exact bel1))
  obtain ⟨o1, c1, hv1, -, -⟩ := q1.shape
  subst hv1
  have fA := tm_few ES (min nS 20) (by omega)
  have fR := tm_few ER (min nR 20) (by omega)
  generalize tm ES (min nS 20) = A at *
  generalize tm ER (min nR 20) = R at *
  obtain ⟨n1, hn1⟩ : ∃ n, A.length = n := ⟨_, rfl⟩
  rw [hn1] at q1
  try rw [hn1]
  clear h1
  go_wp2_with fail
  refine h2.mono ?_
  rintro e w2 ⟨⟨v2, rfl, q2⟩, hb2⟩
  obtain ⟨o2, c2, hv2, -, -⟩ := q2.shape
  subst hv2
  have bel2 := bel1.trans (hb2.mono (by rw [← HB0.out]; exact hbs1))
  have q1' : QM w2 _ (.slice o1 n1 c1) A := q1.below hb2 (Nat.le_refl _)
  obtain ⟨n2, hn2⟩ : ∃ n, R.length = n := ⟨_, rfl⟩
  rw [hn2] at q2
  try rw [hn2]
  obtain ⟨B2, hB2⟩ : ∃ B2, w2.heap.size = B2 := ⟨_, rfl⟩
  have hb02 : B0 ≤ B2 := by rw [← hB2, ← HB0.out]; exact bel2.size
  have HA := Lib.hid (show ∀ w', Below B2 w2 w' → QM w' _ (.slice o1 n1 c1) A from fun w' h => q1'.below h (by omega))
  have HRR := Lib.hid (show ∀ w', Below B2 w2 w' → QM w' _ (.slice o2 n2 c2) R from fun w' h => q2.below h (by omega))
  have HBL := Lib.hid (show ∀ w', Below B2 w2 w' → Below B0 w w' from fun w' h => bel2.trans (h.mono hb02))
  have HB2 := Lib.hid hB2
  have HFA := Lib.hid fA
  have HFR := Lib.hid fR
  have bel : Below B2 w2 w2 := Below.refl _ _
  have h3 := order_any (HA.out _ bel) (HRR.out _ bel) fA.1 fR.1
  clear h2 q1 q1' q2 hb2 bel1 bel2 hbs1 fA fR hn1 hn2 hB2
  go_wp2_with fail
  refine h3.mono ?_
  rintro e w3 ⟨⟨b, rfl, hb⟩, hb3⟩
  have bel3 := bel.trans (hb3.mono (by rw [HB2.out]; exact Nat.le_refl _))
  rw [← ord_two (fun x hx => (HFR.out.2 x hx).1)] at hb
  have HO := Lib.hid hb
  clear h3 hb hb3 bel
  go_upto_if 15 with fail
  go_cut [7] (fun s7 wx => s7 = .int .i64 (oV A R) ∧ Below B2 w2 wx)
  case first =>
    have HB := Lib.hid bel3
    clear bel3
    cases b
    · have HV := Lib.hid (oV_no fun h => absurd (HO.out.2 h) Bool.false_ne_true)
      have b1 : bits .or .i64 0 1 = 1 := by decide
      go_wp2_with fail
      go_meet
      exact ⟨by rw [HV.out], HB.out⟩
    · have HV := Lib.hid (oV_yes (HO.out.1 rfl))
      go_wp2_with fail
      go_meet
      exact ⟨by rw [HV.out], HB.out⟩
  case rest =>
  clear bel3 HO
  obtain ⟨hv, bel3⟩ := hcut
  obtain ⟨ov, hov⟩ : ∃ ov, oV A R = ov := ⟨_, rfl⟩
  have hor := oV_or A R
  rw [hov] at hv hor
  subst hv
  have HOV := Lib.hid hov
  clear hov
  generalize wc = w4 at *
  have h4 := loose_doc (HA.out _ bel3) (HRR.out _ bel3) HFA.out.1 HFR.out.1
  have hbs3 : B2 ≤ w4.heap.size := by rw [← HB2.out]; exact bel3.size
  go_wp2_with fail
  refine h4.mono ?_
  rintro e w5 ⟨⟨b, rfl, hb⟩, hb5⟩
  have bel5 := bel3.trans (hb5.mono hbs3)
  have HL := Lib.hid hb
  clear h4 hb hb5 bel3 hbs3
  go_upto_if 21 with fail
  go_cut [7] (fun s7 wx => s7 = .int .i64 (oV A R + lV A R) ∧ Below B2 w2 wx)
  case first =>
    have HB := Lib.hid bel5
    clear bel5
    cases b
    · have HV := Lib.hid (lV_no fun h => absurd (HL.out.2 h) Bool.false_ne_true)
      have b1 : bits .or .i64 ov 2 = ov + 2 := by rcases hor with e | e <;> rw [e] <;> decide
      clear hor
      go_wp2_with fail
      go_meet
      exact ⟨by rw [HV.out, HOV.out], HB.out⟩
    · have HV := Lib.hid (lV_yes (HL.out.1 rfl))
      clear hor
      go_wp2_with fail
      go_meet
      exact ⟨by rw [HV.out, HOV.out, Int.add_zero], HB.out⟩
  case rest =>
  clear bel5 HL hor
  obtain ⟨hv, bel5⟩ := hcut
  obtain ⟨ww, hww⟩ : ∃ ww, oV A R + lV A R = ww := ⟨_, rfl⟩
  rw [hww] at hv
  subst hv
  generalize wc = w6 at *
  have h6 := awake_mo w6
  have hbs6 : B2 ≤ w6.heap.size := by rw [← HB2.out]; exact bel5.size
  go_wp2_with fail
  refine h6.mono ?_
  rintro e w7 ⟨rfl, hb7⟩
  have bel7 := bel5.trans (hb7.mono hbs6)
  have h8 := held_any (HA.out _ bel7) (HRR.out _ bel7) HFA.out HFR.out
  rw [hww] at h8
  have hbs7 : B2 ≤ w7.heap.size := by rw [← HB2.out]; exact bel7.size
  clear h6 hb7 bel5 hbs6 hww HOV
  go_wp2_with fail
  refine h8.mono ?_
  rintro e w9 ⟨rfl, hb9⟩
  have HF := Lib.hid (HBL.out _ (bel7.trans (hb9.mono hbs7)))
  clear h8 hb9 bel7 hbs7
  go_wp2_with fail
  go_ret
  exact ⟨rfl, HF.out⟩
section
variable {H : Type} {enc : TypeId × Value → H} {W : World} {base : Nat}
def ma0 : Ma := ⟨0, 0, false, 0, ⟨#[]⟩⟩
theorem msr_of {b0 : Nat} {sp : Nat → Bool} {hd : Bool} {v : Value} (h : FlatRow enc Try.prog W b0 sp hd [.int .i64, .int .i64, .bool, .int .u32, .str] v) : ∃ (oa : Option Addr) (a : Addr) (n c : Nat) (E : Nat → Ma), v = .slice oa n c ∧ MsR W W.heap.size oa a n c E := by
  rcases h with rfl | ⟨a, len, cap, C, rfl, hlc, hcm, hab, hC⟩
  · exact ⟨none, ⟨0, 0, none⟩, 0, 0, fun _ => ma0, rfl, ⟨Nat.le_refl _, by unfold maxLen; omega, fun h => absurd h (Nat.lt_irrefl _), fun h => absurd h (Nat.lt_irrefl _), fun i h => absurd h (Nat.not_lt_zero i), fun i h => absurd h (Nat.not_lt_zero i)⟩⟩
  · have hx : ∀ i, ∃ x : Ma, i < len → (∀ (j : Nat) u, (mea x)[j]? = some u → W.cell? ((a.add (i * 5)).add j) = some u) ∧ x.d.size ≤ maxLen := by
      intro i
      by_cases hi : i < len
      · obtain ⟨hF, hc⟩ := hC i hi
        generalize C i = l at *
        obtain ⟨x1, l1, rfl, _, hF⟩ := hF.int
        obtain ⟨x2, l2, rfl, _, hF⟩ := hF.int
        obtain ⟨x3, l3, e3, hG⟩ := hF.bool
        subst e3
        obtain ⟨x4, l4, rfl, _, hF⟩ := hG.int
        obtain ⟨x5, l5, rfl, hz, hF⟩ := hF.str
        obtain rfl := hF.nil
        refine ⟨⟨x1, x2, x3, x4, x5⟩, fun _ => ⟨fun j u hu => ?_, hz⟩⟩
        rw [Addr.add_add]
        exact hc j u (by simpa [mea] using hu)
      · exact ⟨ma0, fun h => absurd h hi⟩
    have hs := fun i => Classical.choose_spec (hx i)
    exact ⟨some a, a, len, cap, fun i => Classical.choose (hx i), rfl, ⟨hlc, hcm, fun _ => rfl, hab, fun i hi => (hs i hi).1, fun i hi => (hs i hi).2⟩⟩
theorem held_open {v0 v1 : Value} {d0 d1 : DataW H} {p0 p1 : List MemPlace} (o0 : Value.okWide Try.prog W .any base 35 v0) (o1 : Value.okWide Try.prog W .any base 35 v1)
    (h0 : DataW.Trod enc Try.prog W 0 (fun _ => true) true 35 v0 d0 p0) (h1 : DataW.Trod enc Try.prog W 0 (fun _ => true) true 35 v1 d1 p1) :
    Calls Try.prog 4 #[v0, v1] W fun e w' => e = .returned (.bool true) ∧ Below W.heap.size W w' := by
  obtain ⟨oS, aS, nS, cS, ES, rfl, HS⟩ := msr_of (open_row 4 (sh := [.int .i64, .int .i64, .bool, .int .u32, .str]) Try.underlying35 (by kernel_rfl) (by kernel_rfl) (by decide) o0 h0)
  obtain ⟨oR, aR, nR, cR, ER, rfl, HR⟩ := msr_of (open_row 4 (sh := [.int .i64, .int .i64, .bool, .int .u32, .str]) Try.underlying35 (by kernel_rfl) (by kernel_rfl) (by decide) o1 h1)
  exact model_held oS oR aS aR nS cS nR cR ES ER W HS HR
end
end Go.Proofs.Ythjhiogbnacmdaa.mo
