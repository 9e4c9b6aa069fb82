/- Layer 21: the chunk comes. -/
import Derived.Test.YthddacgdmngfhaaFliE
namespace Go.Proofs.Ythddacgdmngfhaa.fli
open Go.Sort (grow)
open Go.ChangeShapes Go.WideShapes Go.ChangeAt Go.RowKit kit
set_option maxRecDepth 100000

/-- The cells of a chunk that came. -/
def sc : Array Value := (se.setIfInBounds 20 (.bool true)).setIfInBounds 19 (.bool false)
theorem since_one (w : World) : Calls Try.prog 170 #[.int .i64 3, .int .i64 9] w fun e w' => e = .returned (.int .i64 6) ∧ w' = w := by
  go_enter Try.func170, Try.ntmps170
  go_wp2_with fail
  go_ret
  exact ⟨rfl, rfl⟩
theorem diff_one (w : World) : Calls Try.prog 96 #[.int .u32 5, .int .u32 4] w fun e w' => e = .returned (.int .i64 1) ∧ w' = w := by
  go_enter Try.func96, Try.ntmps96
  go_wp2_with fail
  go_ret
  exact ⟨rfl, rfl⟩
/-- Where things lie while a sack comes. -/
structure Dn (b0 g h a g1 g2 r c : Nat) : Prop where
  gh : g ≠ h
  ga : g ≠ a
  n1 : g ≠ g1
  n2 : g ≠ g2
  ha : h ≠ a
  h1 : h ≠ g1
  h2 : h ≠ g2
  a1 : a ≠ g1
  a2 : a ≠ g2
  n12 : g1 ≠ g2
  bg : b0 ≤ g
  bh : b0 ≤ h
  ba : b0 ≤ a
  b1 : b0 ≤ g1
  b2 : b0 ≤ g2
  rg : r ≠ g
  rh : r ≠ h
  ra : r ≠ a
  r1 : r ≠ g1
  r2 : r ≠ g2
  br : b0 ≤ r
  cg : c ≠ g
  ch : c ≠ h
  ca : c ≠ a
  c1 : c ≠ g1
  c2 : c ≠ g2
  cr : c ≠ r
structure Kn (g h a g1 g2 g3 r c : Nat) (u : Int) (l : Value) (m : Bool) (x y : Int) (cs : Array Value) (w : World) : Prop where
  B : Blk w g 229 #[.int .u32 u, l]
  C : Cel w h 0 cs
  A : Blk w a 130 #[.bool m, .slice (some ⟨g1, 0, none⟩) 1 1, .slice (some ⟨g2, 0, none⟩) 1 1, .slice (some ⟨g3, 0, none⟩) 1 1]
  G1 : Blk w g1 3 #[.int .i64 x]
  G2 : Blk w g2 3 #[.int .i64 y]
  R : Blk w r 130 #[.bool false, .slice none 0 0, .slice none 0 0, .slice none 0 0]
  X : Blk w c 40 (ch 0 5 ⟨#[120]⟩)
section
variable {b0 g h a g1 g2 g3 r c : Nat} {u : Int} {l : Value} {m : Bool} {x y : Int} {cs : Array Value} {w w' : World}
theorem Kn.drew (K : Kn g h a g1 g2 g3 r c u l m x y cs w) : Kn g h a g1 g2 g3 r c u l m x y cs w.drew := ⟨K.B, K.C, K.A, K.G1, K.G2, K.R, K.X⟩
theorem Kn.set1 (K : Kn g h a g1 g2 g3 r c u l m x y cs w) (D : Dn b0 g h a g1 g2 r c) (v : Int) : Kn g h a g1 g2 g3 r c u l m v y cs (w.setCell ⟨g1, 0, none⟩ (.int .i64 v)) :=
  ⟨K.B.far (p := ⟨g1, 0, none⟩) D.n1 _, K.C.far (p := ⟨g1, 0, none⟩) D.h1 _, K.A.far (p := ⟨g1, 0, none⟩) D.a1 _, K.G1.set_ 0 _, K.G2.far (p := ⟨g1, 0, none⟩) (Ne.symm D.n12) _, K.R.far (p := ⟨g1, 0, none⟩) D.r1 _, K.X.far (p := ⟨g1, 0, none⟩) D.c1 _⟩
theorem Kn.set2 (K : Kn g h a g1 g2 g3 r c u l m x y cs w) (D : Dn b0 g h a g1 g2 r c) (v : Int) : Kn g h a g1 g2 g3 r c u l m x v cs (w.setCell ⟨g2, 0, none⟩ (.int .i64 v)) :=
  ⟨K.B.far (p := ⟨g2, 0, none⟩) D.n2 _, K.C.far (p := ⟨g2, 0, none⟩) D.h2 _, K.A.far (p := ⟨g2, 0, none⟩) D.a2 _, K.G1.far (p := ⟨g2, 0, none⟩) D.n12 _, K.G2.set_ 0 _, K.R.far (p := ⟨g2, 0, none⟩) D.r2 _, K.X.far (p := ⟨g2, 0, none⟩) D.c2 _⟩
theorem Kn.setH (K : Kn g h a g1 g2 g3 r c u l m x y cs w) (D : Dn b0 g h a g1 g2 r c) (j : Nat) (v : Value) : Kn g h a g1 g2 g3 r c u l m x y (cs.setIfInBounds j v) (w.setCell ⟨h, j, none⟩ v) :=
  ⟨K.B.far (p := ⟨h, j, none⟩) D.gh _, by have := K.C.set_ j v; rwa [Nat.zero_add] at this, K.A.far (p := ⟨h, j, none⟩) (Ne.symm D.ha) _, K.G1.far (p := ⟨h, j, none⟩) (Ne.symm D.h1) _, K.G2.far (p := ⟨h, j, none⟩) (Ne.symm D.h2) _, K.R.far (p := ⟨h, j, none⟩) D.rh _, K.X.far (p := ⟨h, j, none⟩) D.ch _⟩
end
set_option maxHeartbeats 2000000 in
theorem come_one {b0 g h a g1 g2 g3 r c : Nat} {l : Value} (D : Dn b0 g h a g1 g2 r c) (w : World) (K : Kn g h a g1 g2 g3 r c 4 l true 0 (-1) se w) :
    Calls Try.prog 129 #[.pointer (some ⟨h, 0, none⟩), .pointer (some ⟨a, 0, none⟩), .int .i64 9] w fun e w' => e = .returned (.tuple #[]) ∧ Kn g h a g1 g2 g3 r c 4 l true 1 6 sc w' ∧ Below b0 w w' := by
  have h20 : w.cell? ⟨h, 20, none⟩ = some (.bool false) := K.C.cell0 20 rfl
  have h15 : w.cell? ⟨h, 15, none⟩ = some (.int .i64 0) := K.C.cell0 15 rfl
  have h6 : w.cell? ⟨h, 6, none⟩ = some (.string ⟨#[120]⟩) := K.C.cell0 6 rfl
  have a1 : w.cell? ⟨a, 1, none⟩ = some (.slice (some ⟨g1, 0, none⟩) 1 1) := K.A.cell 1
  have x0 : w.cell? ⟨g1, 0, none⟩ = some (.int .i64 0) := K.G1.cell 0
  have x0f : w.frozen? ⟨g1, 0, none⟩ = false := K.G1.frozen 0
  have hs1 : (⟨#[120]⟩ : ByteArray).size = 1 := rfl
  go_enter Try.func129, Try.ntmps129
  go_wp2_with fail
  go_region
  go_upto_region 1 with (fail)
  have K1 := K.drew
  have bel1 : Below b0 w w.drew := (Below.refl _ _).drew
  clear K h20 h15 h6 a1 x0 x0f
  generalize w.drew = w1 at *
  have h15 : w1.cell? ⟨h, 15, none⟩ = some (.int .i64 0) := K1.C.cell0 15 rfl
  have h6 : w1.cell? ⟨h, 6, none⟩ = some (.string ⟨#[120]⟩) := K1.C.cell0 6 rfl
  have a1 : w1.cell? ⟨a, 1, none⟩ = some (.slice (some ⟨g1, 0, none⟩) 1 1) := K1.A.cell 1
  have x0 : w1.cell? ⟨g1, 0, none⟩ = some (.int .i64 0) := K1.G1.cell 0
  have x0f : w1.frozen? ⟨g1, 0, none⟩ = false := K1.G1.frozen 0
  go_region
  go_upto_region 2 with (fail)
  have K2 := (K1.set1 D 1).drew
  have bel2 := (bel1.setCell (p := ⟨g1, 0, none⟩) D.b1 (.int .i64 1)).drew
  clear K1 h15 h6 a1 x0 x0f bel1
  generalize (w1.setCell ⟨g1, 0, none⟩ (.int .i64 1)).drew = w2 at *
  have h17 : w2.cell? ⟨h, 17, none⟩ = some (.int .i64 1) := K2.C.cell0 17 rfl
  have h15 : w2.cell? ⟨h, 15, none⟩ = some (.int .i64 0) := K2.C.cell0 15 rfl
  have a2 : w2.cell? ⟨a, 2, none⟩ = some (.slice (some ⟨g2, 0, none⟩) 1 1) := K2.A.cell 2
  have y0 : w2.cell? ⟨g2, 0, none⟩ = some (.int .i64 (-1)) := K2.G2.cell 0
  go_region
  go_upto_region 3 with (fail)
  have K3 := K2.drew
  have bel3 := bel2.drew
  clear K2 h17 h15 a2 y0 bel2
  generalize w2.drew = w3 at *
  have h15 : w3.cell? ⟨h, 15, none⟩ = some (.int .i64 0) := K3.C.cell0 15 rfl
  have h16 : w3.cell? ⟨h, 16, none⟩ = some (.int .i64 3) := K3.C.cell0 16 rfl
  have a2 : w3.cell? ⟨a, 2, none⟩ = some (.slice (some ⟨g2, 0, none⟩) 1 1) := K3.A.cell 2
  have y0 : w3.cell? ⟨g2, 0, none⟩ = some (.int .i64 (-1)) := K3.G2.cell 0
  have y0f : w3.frozen? ⟨g2, 0, none⟩ = false := K3.G2.frozen 0
  have hS := fun w => since_one w
  go_region_law ((refine step_call (by rfl) 170 Try.f170 _ _ (by rfl) Try.func170 (by kernel_rfl) (by kernel_rfl) #[.int .i64 3, .int .i64 9] (by simp [Act.eval, Act.put]) (hS _) ?_; rintro w9 rfl))
  all_goals
    have K4 := (K3.set2 D 6).drew
    have bel4 := (bel3.setCell (p := ⟨g2, 0, none⟩) D.b2 (.int .i64 6)).drew
    clear K3 h15 h16 a2 y0 y0f bel3 hS
    generalize (w3.setCell ⟨g2, 0, none⟩ (.int .i64 6)).drew = w4 at *
    have h20 : w4.cell? ⟨h, 20, none⟩ = some (.bool false) := K4.C.cell0 20 rfl
    have h20f : w4.frozen? ⟨h, 20, none⟩ = false := K4.C.frozen0 20 (by decide)
    have h19 : w4.cell? ⟨h, 19, none⟩ = some (.bool false) := K4.C.cell0 19 rfl
    have h19f : w4.frozen? ⟨h, 19, none⟩ = false := K4.C.frozen0 19 (by decide)
    go_wp2_with fail
    go_end0
    exact ⟨rfl, (K4.setH D 20 (.bool true)).setH D 19 (.bool false), (bel4.setCell (p := ⟨h, 20, none⟩) D.bh (.bool true)).setCell (p := ⟨h, 19, none⟩) D.bh (.bool false)⟩
end Go.Proofs.Ythddacgdmngfhaa.fli
