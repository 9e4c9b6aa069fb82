/- Layer 21: what a sack tells, at first. -/
import Derived.Test.YthddacgdmngfhaaFliA
namespace Go.Proofs.Ythddacgdmngfhaa.fli
open Go.Sort (grow)
open Go.ChangeShapes Go.WideShapes Go.ChangeAt Go.RowKit kit
set_option maxRecDepth 100000

theorem mkI0 (w : World) : (Instr.makeSlice 25 (.int .i64 0) (.int .i64 0)).run Try.prog w = .ok (.slice (some ⟨w.heap.size, 0, none⟩) 0 0) (w.alloc (.cells #[] 3)) := by kernel_rfl
theorem mkB0 (w : World) : (Instr.makeSlice 65 (.int .i64 0) (.int .i64 0)).run Try.prog w = .ok (.slice (some ⟨w.heap.size, 0, none⟩) 0 0) (w.alloc (.cells #[] 4)) := by kernel_rfl
theorem mkI1 (w : World) : (Instr.makeSlice 25 (.int .i64 1) (.int .i64 1)).run Try.prog w = .ok (.slice (some ⟨w.heap.size, 0, none⟩) 1 1) (w.alloc (.cells #[.int .i64 0] 3)) := by kernel_rfl
theorem mkB1 (w : World) : (Instr.makeSlice 65 (.int .i64 1) (.int .i64 1)).run Try.prog w = .ok (.slice (some ⟨w.heap.size, 0, none⟩) 1 1) (w.alloc (.cells #[.bool false] 4)) := by kernel_rfl
theorem mkI2 (w : World) : (Instr.makeSlice 25 (.int .i64 2) (.int .i64 2)).run Try.prog w = .ok (.slice (some ⟨w.heap.size, 0, none⟩) 2 2) (w.alloc (.cells #[.int .i64 0, .int .i64 0] 3)) := by kernel_rfl
theorem mkB2 (w : World) : (Instr.makeSlice 65 (.int .i64 2) (.int .i64 2)).run Try.prog w = .ok (.slice (some ⟨w.heap.size, 0, none⟩) 2 2) (w.alloc (.cells #[.bool false, .bool false] 4)) := by kernel_rfl
theorem mkI3 (w : World) : (Instr.makeSlice 25 (.int .i64 3) (.int .i64 3)).run Try.prog w = .ok (.slice (some ⟨w.heap.size, 0, none⟩) 3 3) (w.alloc (.cells #[.int .i64 0, .int .i64 0, .int .i64 0] 3)) := by kernel_rfl
theorem mkB3 (w : World) : (Instr.makeSlice 65 (.int .i64 3) (.int .i64 3)).run Try.prog w = .ok (.slice (some ⟨w.heap.size, 0, none⟩) 3 3) (w.alloc (.cells #[.bool false, .bool false, .bool false] 4)) := by kernel_rfl
def ZI (p : Nat) : Array Value := (List.replicate p (.int .i64 0)).toArray
def ZB (p : Nat) : Array Value := (List.replicate p (.bool false)).toArray
theorem mkI (p : Nat) (h : p ≤ 3) (w : World) : (Instr.makeSlice 25 (.int .i64 p) (.int .i64 p)).run Try.prog w = .ok (.slice (some ⟨w.heap.size, 0, none⟩) p p) (w.alloc (.cells (ZI p) 3)) := by
  rcases (by omega : p = 0 ∨ p = 1 ∨ p = 2 ∨ p = 3) with rfl | rfl | rfl | rfl
  · exact mkI0 w
  · exact mkI1 w
  · exact mkI2 w
  · exact mkI3 w
theorem mkB (p : Nat) (h : p ≤ 3) (w : World) : (Instr.makeSlice 65 (.int .i64 p) (.int .i64 p)).run Try.prog w = .ok (.slice (some ⟨w.heap.size, 0, none⟩) p p) (w.alloc (.cells (ZB p) 4)) := by
  rcases (by omega : p = 0 ∨ p = 1 ∨ p = 2 ∨ p = 3) with rfl | rfl | rfl | rfl
  · exact mkB0 w
  · exact mkB1 w
  · exact mkB2 w
  · exact mkB3 w
def TK (p i : Nat) : Array Value := (List.replicate i (Value.int .i64 (-1)) ++ List.replicate (p - i) (Value.int .i64 0)).toArray
theorem tk_step (p i : Nat) (h : i < p) (hp : p ≤ 3) : (TK p i).setIfInBounds i (.int .i64 (-1)) = TK p (i + 1) ∧ (TK p i)[i]? = some (.int .i64 0) := by
  rcases (by omega : (p = 1 ∧ i = 0) ∨ (p = 2 ∧ i = 0) ∨ (p = 2 ∧ i = 1) ∨ (p = 3 ∧ i = 0) ∨ (p = 3 ∧ i = 1) ∨ (p = 3 ∧ i = 2)) with ⟨rfl, rfl⟩ | ⟨rfl, rfl⟩ | ⟨rfl, rfl⟩ | ⟨rfl, rfl⟩ | ⟨rfl, rfl⟩ | ⟨rfl, rfl⟩ <;> exact ⟨rfl, rfl⟩
section
variable (w : World) (c0 c1 c2 c3 : Array Value) (t0 t1 t2 t3 : TypeId)
theorem blkA : Blk ((((w.alloc (.cells c0 t0)).alloc (.cells c1 t1)).alloc (.cells c2 t2)).alloc (.cells c3 t3)).drew w.heap.size t0 c0 := ((((Blk.new w t0 c0).alloc _).alloc _).alloc _).drew
theorem blkB : Blk ((((w.alloc (.cells c0 t0)).alloc (.cells c1 t1)).alloc (.cells c2 t2)).alloc (.cells c3 t3)).drew (w.heap.size + 1) t1 c1 := (((blk_new2 w _ t1 c1).alloc _).alloc _).drew
theorem blkC : Blk ((((w.alloc (.cells c0 t0)).alloc (.cells c1 t1)).alloc (.cells c2 t2)).alloc (.cells c3 t3)).drew (w.heap.size + 1 + 1) t2 c2 := by
  have h : ((w.alloc (.cells c0 t0)).heap.size) = w.heap.size + 1 := by simp
  have := blk_new2 (w.alloc (.cells c0 t0)) (.cells c1 t1) t2 c2
  rw [h] at this
  exact (this.alloc _).drew
theorem blkD : Blk ((((w.alloc (.cells c0 t0)).alloc (.cells c1 t1)).alloc (.cells c2 t2)).alloc (.cells c3 t3)).drew (w.heap.size + 1 + 1 + 1) t3 c3 := by
  have h : (((w.alloc (.cells c0 t0)).alloc (.cells c1 t1)).heap.size) = w.heap.size + 1 + 1 := by simp
  have := blk_new2 ((w.alloc (.cells c0 t0)).alloc (.cells c1 t1)) (.cells c2 t2) t3 c3
  rw [h] at this
  exact this.drew
theorem belF : Below w.heap.size w ((((w.alloc (.cells c0 t0)).alloc (.cells c1 t1)).alloc (.cells c2 t2)).alloc (.cells c3 t3)).drew :=
  (((((Below.refl w.heap.size w).alloc (Nat.le_refl _) _).alloc (by simp) _).alloc (by simp; omega) _).alloc (by simp; omega) _).drew
end
theorem szK (a b c d : Value) : (Try.prog.info? 130).map (·.size) = some (#[a, b, c, d] : Array Value).size := by show _ = some 4; kernel_rfl
set_option maxHeartbeats 4000000 in
theorem told_any (p : Nat) (hp : p ≤ 3) (w : World) : Calls Try.prog 128 #[.int .i64 p] w fun e w' => ∃ g1 g2 g3 : Nat, e = .returned (.agg #[.bool false, .slice (some ⟨g1, 0, none⟩) p p, .slice (some ⟨g2, 0, none⟩) p p, .slice (some ⟨g3, 0, none⟩) p p]) ∧ g1 ≠ g2 ∧ w.heap.size ≤ g1 ∧ w.heap.size ≤ g2 ∧ Blk w' g1 3 (ZI p) ∧ Blk w' g2 3 (TK p p) ∧ Below w.heap.size w w' := by
  have m1 := mkI p hp
  have m2 := mkB p hp
  have A0 := Blk.new w 130 #[.bool false, .slice none 0 0, .slice none 0 0, .slice none 0 0]
  have bel0 := (Below.refl w.heap.size w).alloc (Nat.le_refl _) (.cells #[.bool false, .slice none 0 0, .slice none 0 0, .slice none 0 0] 130)
  have hmx : (p : Int) ≤ 65536 := by omega
  go_enter Try.func128, Try.ntmps128
  go_upto_region 2 with (fail)
  generalize w.alloc (.cells #[.bool false, .slice none 0 0, .slice none 0 0, .slice none 0 0] 130) = w0 at *
  have hw0 : w.heap.size < w0.heap.size := A0.lt
  rw [show (if 0 < p then (p : Int) else 0) = (p : Int) by split <;> omega]
  go_cut [3] (fun s3 wx => ∃ a g1 g2 g3 : Nat, s3 = .pointer (some ⟨a, 0, none⟩) ∧ Blk wx a 130 #[.bool false, .slice (some ⟨g1, 0, none⟩) p p, .slice (some ⟨g2, 0, none⟩) p p, .slice (some ⟨g3, 0, none⟩) p p] ∧ Blk wx g1 3 (ZI p) ∧ Blk wx g2 3 (ZI p) ∧ (g1 ≠ g2 ∧ a ≠ g1 ∧ a ≠ g2 ∧ w0.heap.size ≤ a ∧ w0.heap.size ≤ g1 ∧ w0.heap.size ≤ g2) ∧ Below w0.heap.size w0 wx)
  case first =>
    clear A0 bel0
    generalize ZI p = zi at *
    generalize ZB p = zb at *
    go_region
    all_goals
      go_wp2_with fail
      go_meet
      apply Exists.intro
      apply Exists.intro
      apply Exists.intro
      apply Exists.intro
      refine ⟨rfl, ?_, ?_, ?_, ?_, ?_⟩
      · first | exact blkA _ _ _ _ _ _ _ _ _ | exact blkB _ _ _ _ _ _ _ _ _ | exact blkC _ _ _ _ _ _ _ _ _ | exact blkD _ _ _ _ _ _ _ _ _
      · first | exact blkA _ _ _ _ _ _ _ _ _ | exact blkB _ _ _ _ _ _ _ _ _ | exact blkC _ _ _ _ _ _ _ _ _ | exact blkD _ _ _ _ _ _ _ _ _
      · first | exact blkA _ _ _ _ _ _ _ _ _ | exact blkB _ _ _ _ _ _ _ _ _ | exact blkC _ _ _ _ _ _ _ _ _ | exact blkD _ _ _ _ _ _ _ _ _
      · omega
      · exact belF _ _ _ _ _ _ _ _ _
  case rest =>
  obtain ⟨a, g1, g2, g3, rfl, K, I1, I2, ⟨n1, n2, n3, n4, n5, n6⟩, belc⟩ := hcut
  have A1 := A0.below belc A0.lt
  have bel1 := bel0.trans (belc.mono bel0.size)
  clear A0 bel0 belc m1 m2
  have k2 : wc.cell? ⟨a, 2, none⟩ = some (.slice (some ⟨g2, 0, none⟩) p p) := K.cell 2
  go_wp2_with fail
  have hzt : ZI p = TK p 0 := by unfold ZI TK; simp
  rw [hzt] at I2
  go_outline
  go_loopw [18] (fun s18 wr => ∃ i : Nat, i ≤ p ∧ s18 = .int .i64 i ∧ Blk wr g2 3 (TK p i) ∧ Blk wr g1 3 (ZI p) ∧ Blk wr a 130 #[.bool false, .slice (some ⟨g1, 0, none⟩) p p, .slice (some ⟨g2, 0, none⟩) p p, .slice (some ⟨g3, 0, none⟩) p p] ∧ Blk wr w.heap.size 130 #[.bool false, .slice none 0 0, .slice none 0 0, .slice none 0 0] ∧ Below w.heap.size w wr) (fun s18 _ => p - (intOf s18).toNat)
  case atStart => exact ⟨0, by omega, rfl, I2, I1, K, A1, bel1⟩
  case round =>
    clear I2 I1 K A1 bel1 k2 hzt
    obtain ⟨i, hi, rfl, I2, I1, K, A1, bel1⟩ := hrel
    by_cases hlt : i < p
    · obtain ⟨q1, q2⟩ := tk_step p i hlt hp
      have k2 : wr.cell? ⟨a, 2, none⟩ = some (.slice (some ⟨g2, 0, none⟩) p p) := K.cell 2
      have c2 : wr.cell? ⟨g2, i, none⟩ = some (.int .i64 0) := (I2.cell i).trans q2
      have c2f : wr.frozen? ⟨g2, i, none⟩ = false := I2.frozen i
      have I2' : Blk (wr.setCell ⟨g2, i, none⟩ (.int .i64 (-1))) g2 3 (TK p (i + 1)) := by rw [← q1]; exact I2.set_ i _
      have I1' := I1.far (p := ⟨g2, i, none⟩) n1 (.int .i64 (-1))
      have K' := K.far (p := ⟨g2, i, none⟩) n3 (.int .i64 (-1))
      have A1' := A1.far (p := ⟨g2, i, none⟩) (show w.heap.size ≠ g2 by omega) (.int .i64 (-1))
      have bel1' := bel1.setCell (p := ⟨g2, i, none⟩) (show w.heap.size ≤ g2 by omega) (.int .i64 (-1))
      have HH := Lib.hid (And.intro I2' (And.intro I1' (And.intro K' (And.intro A1' bel1'))))
      clear q1 q2 I2' I1' K' A1' bel1' I2 I1 K A1 bel1
      go_wp2_with fail
      go_roundw
      case rel => exact ⟨i + 1, by omega, by go_num, HH.out.1, HH.out.2.1, HH.out.2.2.1, HH.out.2.2.2.1, HH.out.2.2.2.2⟩
      case measure => simp [intOf]; omega
    · obtain rfl : i = p := by omega
      have k0 : wr.cell? ⟨a, 0, none⟩ = some (.bool false) := K.cell 0
      have k1 : wr.cell? ⟨a, 1, none⟩ = some (.slice (some ⟨g1, 0, none⟩) i i) := K.cell 1
      have k2 : wr.cell? ⟨a, 2, none⟩ = some (.slice (some ⟨g2, 0, none⟩) i i) := K.cell 2
      have k3 : wr.cell? ⟨a, 3, none⟩ = some (.slice (some ⟨g3, 0, none⟩) i i) := K.cell 3
      have j0 : wr.cell? ⟨w.heap.size, 0, none⟩ = some (.bool false) := A1.cell 0
      have j1 : wr.cell? ⟨w.heap.size, 1, none⟩ = some (.slice none 0 0) := A1.cell 1
      have j2 : wr.cell? ⟨w.heap.size, 2, none⟩ = some (.slice none 0 0) := A1.cell 2
      have j3 : wr.cell? ⟨w.heap.size, 3, none⟩ = some (.slice none 0 0) := A1.cell 3
      have f0 : wr.frozen? ⟨w.heap.size, 0, none⟩ = false := A1.frozen 0
      have f1 : wr.frozen? ⟨w.heap.size, 1, none⟩ = false := A1.frozen 1
      have f2 : wr.frozen? ⟨w.heap.size, 2, none⟩ = false := A1.frozen 2
      have f3 : wr.frozen? ⟨w.heap.size, 3, none⟩ = false := A1.frozen 3
      have A2 : Blk ((((wr.setCell ⟨w.heap.size, 0, none⟩ (.bool false)).setCell ⟨w.heap.size, 1, none⟩ (.slice (some ⟨g1, 0, none⟩) i i)).setCell ⟨w.heap.size, 2, none⟩ (.slice (some ⟨g2, 0, none⟩) i i)).setCell ⟨w.heap.size, 3, none⟩ (.slice (some ⟨g3, 0, none⟩) i i)) w.heap.size 130 #[.bool false, .slice (some ⟨g1, 0, none⟩) i i, .slice (some ⟨g2, 0, none⟩) i i, .slice (some ⟨g3, 0, none⟩) i i] := by
        have := (((A1.set_ 0 (.bool false)).set_ 1 (.slice (some ⟨g1, 0, none⟩) i i)).set_ 2 (.slice (some ⟨g2, 0, none⟩) i i)).set_ 3 (.slice (some ⟨g3, 0, none⟩) i i)
        simpa using this
      have J1 := (((I1.far (p := ⟨w.heap.size, 0, none⟩) (show g1 ≠ w.heap.size by omega) (.bool false)).far (p := ⟨w.heap.size, 1, none⟩) (show g1 ≠ w.heap.size by omega) (.slice (some ⟨g1, 0, none⟩) i i)).far (p := ⟨w.heap.size, 2, none⟩) (show g1 ≠ w.heap.size by omega) (.slice (some ⟨g2, 0, none⟩) i i)).far (p := ⟨w.heap.size, 3, none⟩) (show g1 ≠ w.heap.size by omega) (.slice (some ⟨g3, 0, none⟩) i i)
      have J2 := (((I2.far (p := ⟨w.heap.size, 0, none⟩) (show g2 ≠ w.heap.size by omega) (.bool false)).far (p := ⟨w.heap.size, 1, none⟩) (show g2 ≠ w.heap.size by omega) (.slice (some ⟨g1, 0, none⟩) i i)).far (p := ⟨w.heap.size, 2, none⟩) (show g2 ≠ w.heap.size by omega) (.slice (some ⟨g2, 0, none⟩) i i)).far (p := ⟨w.heap.size, 3, none⟩) (show g2 ≠ w.heap.size by omega) (.slice (some ⟨g3, 0, none⟩) i i)
      have bel2 := (((bel1.setCell (p := ⟨w.heap.size, 0, none⟩) (Nat.le_refl _) (.bool false)).setCell (p := ⟨w.heap.size, 1, none⟩) (Nat.le_refl _) (.slice (some ⟨g1, 0, none⟩) i i)).setCell (p := ⟨w.heap.size, 2, none⟩) (Nat.le_refl _) (.slice (some ⟨g2, 0, none⟩) i i)).setCell (p := ⟨w.heap.size, 3, none⟩) (Nat.le_refl _) (.slice (some ⟨g3, 0, none⟩) i i)
      have HH := Lib.hid (And.intro J1 (And.intro J2 bel2))
      clear J1 J2 bel2 bel1 I1 I2 K
      go_wp2_with fail
      exact bodyPost_ret (v := .agg #[.bool false, .slice (some ⟨g1, 0, none⟩) i i, .slice (some ⟨g2, 0, none⟩) i i, .slice (some ⟨g3, 0, none⟩) i i]) (results_cell_at rfl _ _ w.heap.size 0 #[.bool false, .slice (some ⟨g1, 0, none⟩) i i, .slice (some ⟨g2, 0, none⟩) i i, .slice (some ⟨g3, 0, none⟩) i i] _ rfl (Cel.of_blk A2) Try.underlying130 rfl (szK _ _ _ _)) rfl ⟨g1, g2, g3, rfl, n1, by omega, by omega, HH.out.1, HH.out.2.1, HH.out.2.2⟩
end Go.Proofs.Ythddacgdmngfhaa.fli
