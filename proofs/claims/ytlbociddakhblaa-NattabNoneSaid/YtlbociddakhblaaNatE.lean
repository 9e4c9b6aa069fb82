/- Layer 11: of no table nothing comes, and what may not be is refused; the statement walked. -/
import Derived.Test.YtlbociddakhblaaNatD
namespace Go.Proofs.Ytlbociddakhblaa.nat
open Go.ChangeShapes Go.WideShapes Go.ChangeAt Go.RowKit kit
set_option maxRecDepth 100000

theorem OneAt.lt {g : Nat} {w : World} (O : OneAt g w) : g < w.heap.size := by obtain ⟨_, _, B, _⟩ := O; exact B.lt
theorem awake11_any (w : World) : Calls Try.prog 78 #[] w fun e w' => e = .returned (.bool true) ∧ Below w.heap.size w w' := by
  go_enter Try.func78, Try.ntmps78
  go_wp2_with fail
  refine (new_3 _).mono ?_
  rintro e w1 ⟨rfl, hw1⟩
  have B1 : Blk w1 w.heap.size 184 #[.int .i64 3, .slice none 0 0] := by rw [hw1]; exact Blk.new _ _ _
  have bel1 : Below w.heap.size w w1 := by rw [hw1]; exact (Below.refl _ _).alloc (Nat.le_refl _) _
  clear hw1
  go_wp2_with fail
  refine (add_first w.heap.size _ B1).mono ?_
  rintro e w2 ⟨rfl, O, hb2⟩
  have bel2 := bel1.trans hb2
  go_wp2_with fail
  refine (add_second w.heap.size _ O).mono ?_
  rintro e w3 ⟨rfl, hb3⟩
  have O3 := O.below hb3
  have bel3 := bel2.trans (hb3.mono bel2.size)
  go_wp2_with fail
  refine (len_one w.heap.size _ O3).mono ?_
  rintro e w4 ⟨rfl, hb4⟩
  go_wp2_with fail
  go_ret
  exact ⟨rfl, bel3.trans (hb4.mono bel3.size)⟩

theorem or_one (i : Nat) : ((i ||| 1 : Nat) : Int) ≠ 0 := by
  have h : (i ||| 1).testBit 0 = true := by simp
  intro q
  have : (i ||| 1) = 0 := by omega
  rw [this] at h
  simp at h

theorem zero_eq (w : World) : (Op.equalIn 10000 58 (.agg (en 0 0 0 0 0 0 0)) (.agg (en 0 0 0 0 0 0 0))).run Try.prog w = .ok true w := by kernel_rfl
theorem zero_eql (w : World) : (binOp .eql 58 (.agg (en 0 0 0 0 0 0 0)) (.agg (en 0 0 0 0 0 0 0))).run Try.prog w = .ok (.bool true) w := by kernel_rfl
set_option maxHeartbeats 20000000 in
theorem none_law (a b c d o s n : Int) (i : Nat) (hi : i ≤ 4294967295) (w : World) :
    Calls Try.prog 14 #[.agg (en a b c d i o s), .int .i64 n] w fun e w' => e = .returned (.bool true) ∧ Below w.heap.size w w' := by
  have hor := u32_or_nat i 1 (by omega) (by omega)
  obtain ⟨y, hy⟩ : ∃ y : Int, ((i ||| 1 : Nat) : Int) = y := ⟨_, rfl⟩
  have hy0 : (y == 0) = false := by rw [← hy]; exact beq_eq_false_iff_ne.2 (or_one i)
  rw [hy, show ((1 : Nat) : Int) = 1 from rfl] at hor
  have hm := i64_mask n 3 (by omega)
  obtain ⟨r, hr⟩ : ∃ r, n % (2 ^ 3 : Nat) = r := ⟨_, rfl⟩
  rw [hr] at hm
  simp only [show ((2 ^ 3 - 1 : Nat) : Int) = 7 from rfl] at hm
  have hr0 : 0 ≤ r ∧ r < 8 := by rw [← hr]; omega
  have hw : IntKind.i64.wrap (-1 - r) = -1 - r := IntWalk.i64_in _ (by omega)
  clear hy hr
  go_enter Try.func14, Try.ntmps14
  have N0 := Blk.new w 58 (en a b c d i o s)
  have bel0 := (Below.refl w.heap.size w).alloc (Nat.le_refl _) (.cells (en a b c d i o s) 58)
  go_wp2_with fail
  refine (touch_nil _ _ _).mono ?_
  rintro e w1 ⟨rfl, hb1⟩
  have N1 := N0.below hb1 N0.lt
  have bel1 := bel0.trans (hb1.mono bel0.size)
  go_wp2_with fail
  refine (learn_nil _ _ _).mono ?_
  rintro e w2 ⟨rfl, hb2⟩
  have N2 := N1.below hb2 N1.lt
  have bel2 := bel1.trans (hb2.mono bel1.size)
  go_wp2_with fail
  refine (wipe_nil _).mono ?_
  rintro e w3 ⟨rfl, hb3⟩
  have N3 := N2.below hb3 N2.lt
  have bel3 := bel2.trans (hb3.mono bel2.size)
  clear N0 N1 N2 bel0 bel1 bel2 hb1 hb2 hb3
  have C3 := fun i => N3.cell i
  have hg := N3.lt
  have X0 := Blk.new w3 58 (en a b c d y o s)
  have belX := bel3.alloc bel3.size (.cells (en a b c d y o s) 58)
  go_wp2_with fail
  refine (new_none _ _ (by omega)).mono ?_
  rintro e w4 ⟨rfl, hw4⟩
  have U0 : Blk w4 (w3.heap.size + 1) 184 #[.int .i64 0, .slice none 0 0] := by rw [hw4]; simpa using Blk.new (w3.alloc (.cells (en a b c d y o s) 58)) 184 #[.int .i64 0, .slice none 0 0]
  have X1 : Blk w4 w3.heap.size 58 (en a b c d y o s) := by rw [hw4]; exact X0.alloc _
  have bel4 : Below w.heap.size w w4 := by rw [hw4]; exact belX.alloc belX.size _
  clear hw4 X0 belX N3 C3 bel3 hg hor hm hw
  have CX := fun i => X1.cell i
  go_wp2_with fail
  refine (awake11_any _).mono ?_
  rintro e w5 ⟨rfl, hb5⟩
  have X5 := X1.below hb5 X1.lt
  have U5 := U0.below hb5 U0.lt
  have bel5 := bel4.trans (hb5.mono bel4.size)
  clear X1 U0 hb5 CX
  have CX := fun i => X5.cell i
  go_wp2_with fail
  refine (add_nil a b c d y o s _).mono ?_
  rintro e w6 ⟨rfl, hb6⟩
  have X6 := X5.below hb6 X5.lt
  have U6 := U5.below hb6 U5.lt
  have bel6 := bel5.trans (hb6.mono bel5.size)
  clear X5 U5 hb6 CX
  have CX := fun i => X6.cell i
  go_wp2_with fail
  refine (len_nil _).mono ?_
  rintro e w7 ⟨rfl, hb7⟩
  have X7 := X6.below hb7 X6.lt
  have U7 := U6.below hb7 U6.lt
  have bel7 := bel6.trans (hb7.mono bel6.size)
  clear X6 U6 hb7 CX
  have CX := fun i => X7.cell i
  go_wp2_with fail
  refine (all_nil _).mono ?_
  rintro e w8 ⟨rfl, hb8⟩
  have X8 := X7.below hb8 X7.lt
  have U8 := U7.below hb8 U7.lt
  have bel8 := bel7.trans (hb8.mono bel7.size)
  clear X7 U7 hb8 CX
  have CX := fun i => X8.cell i
  go_wp2_with fail
  refine (inward_nil a b c d y o s _ _).mono ?_
  rintro e w9 ⟨rfl, hb9⟩
  have X9 := X8.below hb9 X8.lt
  have U9 := U8.below hb9 U8.lt
  have bel9 := bel8.trans (hb9.mono bel8.size)
  clear X8 U8 hb9 CX
  have CX := fun i => X9.cell i
  go_wp2_with fail
  refine (outward_nil a b c d y o s _ _).mono ?_
  rintro e w10 ⟨rfl, hb10⟩
  have X10 := X9.below hb10 X9.lt
  have U10 := U9.below hb10 U9.lt
  have bel10 := bel9.trans (hb10.mono bel9.size)
  clear X9 U9 hb10 CX
  have CX := fun i => X10.cell i
  go_wp2_with fail
  refine (ports_nil a b c d y o s _).mono ?_
  rintro e w11 ⟨rfl, hb11⟩
  have X11 := X10.below hb11 X10.lt
  have U11 := U10.below hb11 U10.lt
  have bel11 := bel10.trans (hb11.mono bel10.size)
  clear X10 U10 hb11 CX
  have CX := fun i => X11.cell i
  go_wp2_with fail
  refine (at_nil _ _).mono ?_
  rintro e w12 ⟨rfl, hb12⟩
  have hq1 := fun w => zero_eq w
  have hq2 := fun w => zero_eql w
  have X12 := X11.below hb12 X11.lt
  have U12 := U11.below hb12 U11.lt
  have bel12 := bel11.trans (hb12.mono bel11.size)
  clear X11 U11 hb12 CX
  have CX := fun i => X12.cell i
  go_wp2_with fail
  refine (expire_nil _ _ _).mono ?_
  rintro e w13 ⟨rfl, hb13⟩
  have X13 := X12.below hb13 X12.lt
  have U13 := U12.below hb13 U12.lt
  have bel13 := bel12.trans (hb13.mono bel12.size)
  clear X12 U12 hb13 CX
  have CX := fun i => X13.cell i
  go_wp2_with fail
  refine (add_full (w3.heap.size + 1) a b c d y o s _ hy0 U13).mono ?_
  rintro e w14 ⟨rfl, hb14⟩
  have X14 := X13.below hb14 X13.lt
  have U14 := U13.below hb14 U13.lt
  have bel14 := bel13.trans (hb14.mono bel13.size)
  clear X13 U13 hb14 CX
  have CX := fun i => X14.cell i
  go_wp2_with fail
  refine (at0_fresh (w3.heap.size + 1) 0 _ U14).mono ?_
  rintro e w15 ⟨rfl, hb15⟩
  have X15 := X14.below hb15 X14.lt
  have U15 := U14.below hb15 U14.lt
  have bel15 := bel14.trans (hb15.mono bel14.size)
  clear X14 U14 hb15 CX
  have CX := fun i => X15.cell i
  go_wp2_with fail
  refine (new_5 _).mono ?_
  rintro e w16 ⟨rfl, hw16⟩
  have V : Blk w16 w15.heap.size 184 #[.int .i64 5, .slice none 0 0] := by rw [hw16]; exact Blk.new _ _ _
  have bel16 : Below w.heap.size w w16 := by rw [hw16]; exact bel15.alloc bel15.size _
  clear hw16 X15 U15 CX
  go_wp2_with fail
  refine (add_bad _ 5 _ V).mono ?_
  rintro e w17 ⟨rfl, hb17⟩
  go_wp2_with fail
  go_ret
  exact ⟨rfl, bel16.trans (hb17.mono bel16.size)⟩
end Go.Proofs.Ytlbociddakhblaa.nat
