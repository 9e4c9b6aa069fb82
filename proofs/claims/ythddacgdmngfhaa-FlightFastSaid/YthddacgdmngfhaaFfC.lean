/- Layer 21: what a sack tells, at first, with what was lost. -/
import Derived.Test.YthddacgdmngfhaaFliB
namespace Go.Proofs.Ythddacgdmngfhaa.fli
open Go.Sort (grow)
open Go.ChangeShapes Go.WideShapes Go.ChangeAt Go.RowKit kit
set_option maxRecDepth 100000

set_option maxHeartbeats 4000000 in
theorem told_all (p : Nat) (hp : p ≤ 3) (w : World) : Calls Try.prog 128 #[.int .i64 p] w fun e w' => ∃ g1 g2 g3 : Nat, e = .returned (.agg #[.bool false, .slice (some ⟨g1, 0, none⟩) p p, .slice (some ⟨g2, 0, none⟩) p p, .slice (some ⟨g3, 0, none⟩) p p]) ∧ (g1 ≠ g2 ∧ g1 ≠ g3 ∧ g2 ≠ g3 ∧ w.heap.size ≤ g1 ∧ w.heap.size ≤ g2 ∧ w.heap.size ≤ g3) ∧ Blk w' g1 3 (ZI p) ∧ Blk w' g2 3 (TK p p) ∧ Blk w' g3 4 (ZB p) ∧ Below w.heap.size w w' := by
  have m1 := mkI p hp
  have m2 := mkB p hp
  have A0 := Blk.new w 130 #[.bool false, .slice none 0 0, .slice none 0 0, .slice none 0 0]
  have bel0 := (Below.refl w.heap.size w).alloc (Nat.le_refl _) (.cells #[.bool false, .slice none 0 0, .slice none 0 0, .slice none 0 0] 130)
  have hmx : (p : Int) ≤ 65536 := by omega
  go_enter Try.func128, Try.ntmps128
  go_upto_region 2 with (fail)
  generalize w.alloc (.cells #[.bool false, .slice none 0 0, .slice none 0 0, .slice none 0 0] 130) = w0 at *
  have hw0 : w.heap.size < w0.heap.size := A0.lt
  rw [show (if 0 < p then (p : Int) else 0) = (p : Int) by split <;> omega]
  go_cut [3] (fun s3 wx => ∃ a g1 g2 g3 : Nat, s3 = .pointer (some ⟨a, 0, none⟩) ∧ Blk wx a 130 #[.bool false, .slice (some ⟨g1, 0, none⟩) p p, .slice (some ⟨g2, 0, none⟩) p p, .slice (some ⟨g3, 0, none⟩) p p] ∧ Blk wx g1 3 (ZI p) ∧ Blk wx g2 3 (ZI p) ∧ Blk wx g3 4 (ZB p) ∧ (g1 ≠ g2 ∧ g1 ≠ g3 ∧ g2 ≠ g3 ∧ a ≠ g1 ∧ a ≠ g2 ∧ w0.heap.size ≤ a ∧ w0.heap.size ≤ g1 ∧ w0.heap.size ≤ g2 ∧ w0.heap.size ≤ g3) ∧ Below w0.heap.size w0 wx)
  case first =>
    clear A0 bel0
    generalize ZI p = zi at *
    generalize ZB p = zb at *
    go_region
    all_goals
      go_wp2_with fail
      go_meet
      apply Exists.intro
      apply Exists.intro
      apply Exists.intro
      apply Exists.intro
      refine ⟨rfl, ?_, ?_, ?_, ?_, ?_, ?_⟩
      · first | exact blkA _ _ _ _ _ _ _ _ _ | exact blkB _ _ _ _ _ _ _ _ _ | exact blkC _ _ _ _ _ _ _ _ _ | exact blkD _ _ _ _ _ _ _ _ _
      · first | exact blkA _ _ _ _ _ _ _ _ _ | exact blkB _ _ _ _ _ _ _ _ _ | exact blkC _ _ _ _ _ _ _ _ _ | exact blkD _ _ _ _ _ _ _ _ _
      · first | exact blkA _ _ _ _ _ _ _ _ _ | exact blkB _ _ _ _ _ _ _ _ _ | exact blkC _ _ _ _ _ _ _ _ _ | exact blkD _ _ _ _ _ _ _ _ _
      · first | exact blkA _ _ _ _ _ _ _ _ _ | exact blkB _ _ _ _ _ _ _ _ _ | exact blkC _ _ _ _ _ _ _ _ _ | exact blkD _ _ _ _ _ _ _ _ _
      · omega
      · exact belF _ _ _ _ _ _ _ _ _
  case rest =>
  obtain ⟨a, g1, g2, g3, rfl, K, I1, I2, I3, ⟨n1, m1', m2', n2, n3, n4, n5, n6, n7⟩, belc⟩ := hcut
  have A1 := A0.below belc A0.lt
  have bel1 := bel0.trans (belc.mono bel0.size)
  clear A0 bel0 belc m1 m2
  have k2 : wc.cell? ⟨a, 2, none⟩ = some (.slice (some ⟨g2, 0, none⟩) p p) := K.cell 2
  go_wp2_with fail
  have hzt : ZI p = TK p 0 := by unfold ZI TK; simp
  rw [hzt] at I2
  go_outline
  go_loopw [18] (fun s18 wr => ∃ i : Nat, i ≤ p ∧ s18 = .int .i64 i ∧ Blk wr g2 3 (TK p i) ∧ Blk wr g1 3 (ZI p) ∧ Blk wr g3 4 (ZB p) ∧ Blk wr a 130 #[.bool false, .slice (some ⟨g1, 0, none⟩) p p, .slice (some ⟨g2, 0, none⟩) p p, .slice (some ⟨g3, 0, none⟩) p p] ∧ Blk wr w.heap.size 130 #[.bool false, .slice none 0 0, .slice none 0 0, .slice none 0 0] ∧ Below w.heap.size w wr) (fun s18 _ => p - (intOf s18).toNat)
  case atStart => exact ⟨0, by omega, rfl, I2, I1, I3, K, A1, bel1⟩
  case round =>
    clear I2 I1 I3 K A1 bel1 k2 hzt
    obtain ⟨i, hi, rfl, I2, I1, I3, K, A1, bel1⟩ := hrel
    by_cases hlt : i < p
    · obtain ⟨q1, q2⟩ := tk_step p i hlt hp
      have k2 : wr.cell? ⟨a, 2, none⟩ = some (.slice (some ⟨g2, 0, none⟩) p p) := K.cell 2
      have c2 : wr.cell? ⟨g2, i, none⟩ = some (.int .i64 0) := (I2.cell i).trans q2
      have c2f : wr.frozen? ⟨g2, i, none⟩ = false := I2.frozen i
      have I2' : Blk (wr.setCell ⟨g2, i, none⟩ (.int .i64 (-1))) g2 3 (TK p (i + 1)) := by rw [← q1]; exact I2.set_ i _
      have I1' := I1.far (p := ⟨g2, i, none⟩) n1 (.int .i64 (-1))
      have I3' := I3.far (p := ⟨g2, i, none⟩) (Ne.symm m2') (.int .i64 (-1))
      have K' := K.far (p := ⟨g2, i, none⟩) n3 (.int .i64 (-1))
      have A1' := A1.far (p := ⟨g2, i, none⟩) (show w.heap.size ≠ g2 by omega) (.int .i64 (-1))
      have bel1' := bel1.setCell (p := ⟨g2, i, none⟩) (show w.heap.size ≤ g2 by omega) (.int .i64 (-1))
      have HH := Lib.hid (And.intro I2' (And.intro I1' (And.intro I3' (And.intro K' (And.intro A1' bel1')))))
      clear q1 q2 I2' I1' I3' K' A1' bel1' I2 I1 I3 K A1 bel1
      go_wp2_with fail
      go_roundw
      case rel => exact ⟨i + 1, by omega, by go_num, HH.out.1, HH.out.2.1, HH.out.2.2.1, HH.out.2.2.2.1, HH.out.2.2.2.2.1, HH.out.2.2.2.2.2⟩
      case measure => simp [intOf]; omega
    · obtain rfl : i = p := by omega
      have k0 : wr.cell? ⟨a, 0, none⟩ = some (.bool false) := K.cell 0
      have k1 : wr.cell? ⟨a, 1, none⟩ = some (.slice (some ⟨g1, 0, none⟩) i i) := K.cell 1
      have k2 : wr.cell? ⟨a, 2, none⟩ = some (.slice (some ⟨g2, 0, none⟩) i i) := K.cell 2
      have k3 : wr.cell? ⟨a, 3, none⟩ = some (.slice (some ⟨g3, 0, none⟩) i i) := K.cell 3
      have j0 : wr.cell? ⟨w.heap.size, 0, none⟩ = some (.bool false) := A1.cell 0
      have j1 : wr.cell? ⟨w.heap.size, 1, none⟩ = some (.slice none 0 0) := A1.cell 1
      have j2 : wr.cell? ⟨w.heap.size, 2, none⟩ = some (.slice none 0 0) := A1.cell 2
      have j3 : wr.cell? ⟨w.heap.size, 3, none⟩ = some (.slice none 0 0) := A1.cell 3
      have f0 : wr.frozen? ⟨w.heap.size, 0, none⟩ = false := A1.frozen 0
      have f1 : wr.frozen? ⟨w.heap.size, 1, none⟩ = false := A1.frozen 1
      have f2 : wr.frozen? ⟨w.heap.size, 2, none⟩ = false := A1.frozen 2
      have f3 : wr.frozen? ⟨w.heap.size, 3, none⟩ = false := A1.frozen 3
      have A2 : Blk ((((wr.setCell ⟨w.heap.size, 0, none⟩ (.bool false)).setCell ⟨w.heap.size, 1, none⟩ (.slice (some ⟨g1, 0, none⟩) i i)).setCell ⟨w.heap.size, 2, none⟩ (.slice (some ⟨g2, 0, none⟩) i i)).setCell ⟨w.heap.size, 3, none⟩ (.slice (some ⟨g3, 0, none⟩) i i)) w.heap.size 130 #[.bool false, .slice (some ⟨g1, 0, none⟩) i i, .slice (some ⟨g2, 0, none⟩) i i, .slice (some ⟨g3, 0, none⟩) i i] := by
        have := (((A1.set_ 0 (.bool false)).set_ 1 (.slice (some ⟨g1, 0, none⟩) i i)).set_ 2 (.slice (some ⟨g2, 0, none⟩) i i)).set_ 3 (.slice (some ⟨g3, 0, none⟩) i i)
        simpa using this
      have J1 := (((I1.far (p := ⟨w.heap.size, 0, none⟩) (show g1 ≠ w.heap.size by omega) (.bool false)).far (p := ⟨w.heap.size, 1, none⟩) (show g1 ≠ w.heap.size by omega) (.slice (some ⟨g1, 0, none⟩) i i)).far (p := ⟨w.heap.size, 2, none⟩) (show g1 ≠ w.heap.size by omega) (.slice (some ⟨g2, 0, none⟩) i i)).far (p := ⟨w.heap.size, 3, none⟩) (show g1 ≠ w.heap.size by omega) (.slice (some ⟨g3, 0, none⟩) i i)
      have J2 := (((I2.far (p := ⟨w.heap.size, 0, none⟩) (show g2 ≠ w.heap.size by omega) (.bool false)).far (p := ⟨w.heap.size, 1, none⟩) (show g2 ≠ w.heap.size by omega) (.slice (some ⟨g1, 0, none⟩) i i)).far (p := ⟨w.heap.size, 2, none⟩) (show g2 ≠ w.heap.size by omega) (.slice (some ⟨g2, 0, none⟩) i i)).far (p := ⟨w.heap.size, 3, none⟩) (show g2 ≠ w.heap.size by omega) (.slice (some ⟨g3, 0, none⟩) i i)
      have J3 := (((I3.far (p := ⟨w.heap.size, 0, none⟩) (show g3 ≠ w.heap.size by omega) (.bool false)).far (p := ⟨w.heap.size, 1, none⟩) (show g3 ≠ w.heap.size by omega) (.slice (some ⟨g1, 0, none⟩) i i)).far (p := ⟨w.heap.size, 2, none⟩) (show g3 ≠ w.heap.size by omega) (.slice (some ⟨g2, 0, none⟩) i i)).far (p := ⟨w.heap.size, 3, none⟩) (show g3 ≠ w.heap.size by omega) (.slice (some ⟨g3, 0, none⟩) i i)
      have bel2 := (((bel1.setCell (p := ⟨w.heap.size, 0, none⟩) (Nat.le_refl _) (.bool false)).setCell (p := ⟨w.heap.size, 1, none⟩) (Nat.le_refl _) (.slice (some ⟨g1, 0, none⟩) i i)).setCell (p := ⟨w.heap.size, 2, none⟩) (Nat.le_refl _) (.slice (some ⟨g2, 0, none⟩) i i)).setCell (p := ⟨w.heap.size, 3, none⟩) (Nat.le_refl _) (.slice (some ⟨g3, 0, none⟩) i i)
      have HH := Lib.hid (And.intro J1 (And.intro J2 (And.intro J3 bel2)))
      clear J1 J2 J3 bel2 bel1 I1 I2 I3 K
      go_wp2_with fail
      exact bodyPost_ret (v := .agg #[.bool false, .slice (some ⟨g1, 0, none⟩) i i, .slice (some ⟨g2, 0, none⟩) i i, .slice (some ⟨g3, 0, none⟩) i i]) (results_cell_at rfl _ _ w.heap.size 0 #[.bool false, .slice (some ⟨g1, 0, none⟩) i i, .slice (some ⟨g2, 0, none⟩) i i, .slice (some ⟨g3, 0, none⟩) i i] _ rfl (Cel.of_blk A2) Try.underlying130 rfl (szK _ _ _ _)) rfl ⟨g1, g2, g3, rfl, ⟨n1, m1', m2', by omega, by omega, by omega⟩, HH.out.1, HH.out.2.1, HH.out.2.2.1, HH.out.2.2.2⟩
end Go.Proofs.Ythddacgdmngfhaa.fli
