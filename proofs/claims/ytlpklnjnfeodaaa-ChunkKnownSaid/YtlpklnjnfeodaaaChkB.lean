/- Layer 6: the bytes of a chunk that has nothing but its type; and which types are known. -/
import Derived.Test.YtlpklnjnfeodaaaChkA
import Derived.Test.YtlpklnjnfeodaaaOctB
namespace Go.Proofs.Ytlpklnjnfeodaaa.chk
open Go.ChangeShapes Go.WideShapes Go.ChangeAt Go.RowKit kit oct
set_option maxRecDepth 100000

set_option maxHeartbeats 1000000 in
theorem formed_ck (w : World) : Calls Try.prog 95 #[ck] w fun e w' => e = .returned (.bool true) ∧ Below w.heap.size w w' := by
  go_enter Try.func95, Try.ntmps95
  go_wp2_with fail
  refine (flagsMay_ck _).mono ?_
  rintro e w1 ⟨rfl, hb1⟩
  have B1 : Blk w1 w.heap.size 103 ckCells := (Blk.new _ _ _).below hb1 (by simp)
  have bel1 : Below w.heap.size w w1 := ((Below.refl _ _).alloc (Nat.le_refl _) _).trans (hb1.mono (by simp))
  have C1 := fun i => B1.cell i
  go_wp2_with fail
  have N := Blk.new w1 3 #[.int .i64 0, .int .i64 0, .int .i64 0, .int .i64 0]
  refine (within_4 w1.heap.size 4 _ (by simp) (Nat.le_refl _) (by omega) (N.cell 0) (N.cell 1) (N.cell 2) (N.cell 3)).mono ?_
  rintro e w2 ⟨rfl, hb2⟩
  have B2 := (B1.alloc (.cells #[.int .i64 0, .int .i64 0, .int .i64 0, .int .i64 0] 3)).below hb2 (by simp; have := B1.lt; omega)
  have bel2 := (bel1.alloc bel1.size _).trans (hb2.mono (by simp; have := bel1.size; omega))
  clear C1
  have C2 := fun i => B2.cell i
  go_wp2_with fail
  refine (paramsMay_nil _).mono ?_
  rintro e w3 ⟨rfl, hb3⟩
  have B3 := B2.below hb3 B2.lt
  have bel3 := bel2.trans (hb3.mono bel2.size)
  clear C2
  have C3 := fun i => B3.cell i
  go_wp2_with fail
  refine (causesMay_nil _).mono ?_
  rintro e w4 ⟨rfl, hb4⟩
  have B4 := B3.below hb4 B3.lt
  have bel4 := bel3.trans (hb4.mono bel3.size)
  clear C3
  have C4 := fun i => B4.cell i
  go_wp2_with fail
  refine (rising_nil _).mono ?_
  rintro e w5 ⟨rfl, hb5⟩
  have B5 := B4.below hb5 B4.lt
  have bel5 := bel4.trans (hb5.mono bel4.size)
  clear C4
  have C5 := fun i => B5.cell i
  go_wp2_with fail
  refine (begins_ck _).mono ?_
  rintro e w6 ⟨rfl, hb6⟩
  have B6 := B5.below hb6 B5.lt
  have bel6 := bel5.trans (hb6.mono bel5.size)
  clear C5
  have C6 := fun i => B6.cell i
  go_wp2_with fail
  refine (bare_ck _).mono ?_
  rintro e w7 ⟨rfl, hb7⟩
  have bel7 := bel6.trans (hb7.mono bel6.size)
  go_wp2_with fail
  go_ret
  exact ⟨rfl, bel7⟩
theorem cmay_ck (w : World) : Calls Try.prog 85 #[ck] w fun e w' => e = .returned (.bool true) ∧ Below w.heap.size w w' := by
  go_enter Try.func85, Try.ntmps85
  go_wp2_with fail
  refine (formed_ck _).mono ?_
  rintro e w1 ⟨rfl, hb1⟩
  have B1 : Blk w1 w.heap.size 103 ckCells := (Blk.new _ _ _).below hb1 (by simp)
  have bel1 : Below w.heap.size w w1 := ((Below.refl _ _).alloc (Nat.le_refl _) _).trans (hb1.mono (by simp))
  have C1 := fun i => B1.cell i
  go_wp2_with fail
  refine (few_ck _).mono ?_
  rintro e w2 ⟨rfl, hb2⟩
  go_wp2_with fail
  go_ret
  exact ⟨rfl, bel1.trans (hb2.mono bel1.size)⟩
end Go.Proofs.Ytlpklnjnfeodaaa.chk
