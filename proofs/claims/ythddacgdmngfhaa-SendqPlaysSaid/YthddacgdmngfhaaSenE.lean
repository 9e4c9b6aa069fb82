/- Layer 20: the statement's own example; the law. -/
import Derived.Test.YthddacgdmngfhaaSenD
namespace Go.Proofs.Ythddacgdmngfhaa.sen
open Go.Sort (grow)
open Go.ChangeShapes Go.WideShapes Go.ChangeAt Go.RowKit kit fra
set_option maxRecDepth 100000

set_option maxHeartbeats 2000000 in
theorem awake20_any (w : World) : Calls Try.prog 15 #[] w fun e w' => e = .returned (.bool true) ∧ Below w.heap.size w w' := by
  go_enter Try.func15, Try.ntmps15
  go_wp2_with fail
  refine (new_one _).mono ?_
  rintro e w1 ⟨g, rfl, hg, q1, bel1⟩
  go_wp2_with fail
  refine (put_one w.heap.size g 0 0 0 120 (.slice none 0 0) [] (by omega) (by omega) (by omega) (by omega) (by omega) w1 q1 (World.ownsRow_nil _ _ _ _) hg).mono ?_
  rintro e w2 ⟨rfl, l2, q2, own2, bel2⟩
  have bel2 := bel1.trans (bel2.mono (Nat.le_refl _))
  clear q1 bel1
  go_wp2_with fail
  refine (put_one w.heap.size g 1 1 1 121 l2 _ (by omega) (by omega) (by omega) (by omega) (by omega) w2 q2 own2 hg).mono ?_
  rintro e w3 ⟨rfl, l3, q3, own3, bel3⟩
  have bel3 := bel2.trans (bel3.mono (Nat.le_refl _))
  clear q2 own2 bel2
  obtain ⟨h, cap, B3, hne, hbh, hc1, C3, hlh, hlg⟩ := q3
  rcases own3.2 with ⟨rfl, hk0⟩ | ⟨h3, cap3, cur, rfl, hbh3, hg3, hkc, hcm, hcs, _⟩
  · exact absurd hk0 (by omega)
  have K := Cel.of_owns own3
  have K0 : Cel w3 h3 0 (ck 3 0 0 0 ⟨#[120]⟩) := (K.sub 0 15).congr rfl
  have K1 : Cel w3 h3 15 (ck 3 0 1 0 ⟨#[121]⟩) := (K.sub 15 30).congr rfl
  have hg3' : h3 ≠ g := by intro e; rw [e] at hlg; simp [Value.ownBlock] at hlg
  unfold maxLen at hcm
  clear own3 K hg3 C3
  go_wp2_with fail
  refine (take_one g h3 0 2 cap3 0 2 120 _ (by omega) (by omega) (by omega) (.inl (by omega)) (by omega) (by omega) w3 B3 K0 hg3').mono ?_
  rintro e w4 ⟨rfl, ⟨sl, hsl, B4⟩, KK, bel4⟩
  obtain rfl := hsl (by omega)
  have K4 := KK h3 15 _ hg3' K1
  have bel4 := bel3.trans (bel4.mono hg)
  clear hsl KK K0 K1 B3 bel3
  go_wp2_with fail
  have B5 := B4.alloc (.cells (lit 0 ⟨#[120]⟩) 40)
  have K5 := K4.alloc (.cells (lit 0 ⟨#[120]⟩) 40)
  have V5 := Blk.new w4 40 (lit 0 ⟨#[120]⟩)
  have bel5 := bel4.alloc (Nat.le_trans hg (Nat.le_of_lt B4.lt)) (.cells (lit 0 ⟨#[120]⟩) 40)
  have hgv : w4.heap.size ≠ g := by have := B4.lt; omega
  clear B4 K4 bel4
  generalize w4.alloc (.cells (lit 0 ⟨#[120]⟩) 40) = w5 at *
  refine (take_one g h3 15 1 (cap3 - 1) 1 1 121 _ (by omega) (by omega) (by omega) (.inr rfl) (by omega) (by omega) w5 B5 K5 hg3').mono ?_
  rintro e w6 ⟨rfl, _, KK, bel6⟩
  have V6 := KK _ 0 _ hgv (Cel.of_blk V5)
  have bel6 := bel5.trans (bel6.mono hg)
  clear KK V5 B5 K5 bel5
  have V7 := V6.alloc (.cells (lit 1 ⟨#[121]⟩) 40)
  have U7 := Cel.of_blk (Blk.new w6 40 (lit 1 ⟨#[121]⟩))
  have hle : w.heap.size ≤ w6.heap.size := bel6.size
  have bel7 := bel6.alloc hle (.cells (lit 1 ⟨#[121]⟩) 40)
  have c7 : (w6.alloc (.cells (lit 1 ⟨#[121]⟩) 40)).cell? ⟨w4.heap.size, 4, none⟩ = some (.int .i64 0) := V7.cell0 4 (u := .int .i64 0) rfl
  have d7 : (w6.alloc (.cells (lit 1 ⟨#[121]⟩) 40)).cell? ⟨w6.heap.size, 4, none⟩ = some (.int .i64 1) := U7.cell0 4 (u := .int .i64 1) rfl
  clear V6 V7 U7
  go_wp2_with fail
  go_ret
  exact ⟨rfl, bel7⟩
end Go.Proofs.Ythddacgdmngfhaa.sen
