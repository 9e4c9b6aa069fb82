/- Layer 21: where things lie while a sack comes; a chunk comes. -/
import Derived.Test.YthddacgdmngfhaaFfB
import Derived.Test.YthddacgdmngfhaaFfC
namespace Go.Proofs.Ythddacgdmngfhaa.fli
open Go.Sort (grow)
open Go.ChangeShapes Go.WideShapes Go.ChangeAt Go.RowKit kit
set_option maxRecDepth 100000

/-- Blocks apart. -/
structure Df (N b0 g hh qg a g1 g2 g3 r : Nat) : Prop where
  bg : b0 ≤ g
  bh : b0 ≤ hh
  b1 : b0 ≤ g1
  b2 : b0 ≤ g2
  b3 : b0 ≤ g3
  ba : b0 ≤ a
  gh : g ≠ hh
  g_1 : g ≠ g1
  g_2 : g ≠ g2
  g_3 : g ≠ g3
  ga : g ≠ a
  h1 : hh ≠ g1
  h2 : hh ≠ g2
  h3 : hh ≠ g3
  ha : hh ≠ a
  qg_ : qg ≠ g
  qh : qg ≠ hh
  q1 : qg ≠ g1
  q2 : qg ≠ g2
  q3 : qg ≠ g3
  qa : qg ≠ a
  a1 : a ≠ g1
  a2 : a ≠ g2
  a3 : a ≠ g3
  n12 : g1 ≠ g2
  n13 : g1 ≠ g3
  n23 : g2 ≠ g3
  rg : r ≠ g
  rh : r ≠ hh
  r1 : r ≠ g1
  r2 : r ≠ g2
  r3 : r ≠ g3
  ra : r ≠ a
  N1 : N ≤ g1
  N2 : N ≤ g2
  N3 : N ≤ g3
  Na : N ≤ a
  Nr : N ≤ r
def acd (mo : Bool) (g1 g2 g3 : Nat) : Array Value := #[.bool mo, .slice (some ⟨g1, 0, none⟩) 2 2, .slice (some ⟨g2, 0, none⟩) 2 2, .slice (some ⟨g3, 0, none⟩) 2 2]
/-- What holds while a sack comes. -/
structure Kf (N : Nat) (w0 : World) (b0 g : Nat) (c : Int) (f : Nat → Sx) (n hh off cap qg : Nat) (lo hi : Int) (a g1 g2 g3 r : Nat) (l : Bool) (w : World) : Prop where
  F : Fw b0 g c f n (.slice (some ⟨hh, off, none⟩) n cap) w
  A : Blk w a 130 (acd false g1 g2 g3)
  G1 : ∃ x y, Blk w g1 3 #[.int .i64 x, .int .i64 y]
  G2 : ∃ x y, Blk w g2 3 #[.int .i64 x, .int .i64 y]
  G3 : Blk w g3 4 #[.bool false, .bool l]
  Q : Blk w qg 133 #[.int .i64 lo, .int .i64 hi]
  R : Blk w r 130 #[.bool false, .slice none 0 0, .slice none 0 0, .slice none 0 0]
  hN : N ≤ w.heap.size
  X : ∀ i, i < N → i ≠ g → i ≠ hh → w.heap[i]? = w0.heap[i]?
section
variable {N : Nat} {w0 : World} {b0 g n hh off cap qg a g1 g2 g3 r : Nat} {c lo hi : Int} {f : Nat → Sx} {l : Bool} {w w' : World}
theorem size_set (p : Addr) (u : Value) (h : N ≤ w.heap.size) : N ≤ (w.setCell p u).heap.size := by simpa [World.setCell] using h
theorem Kf.blk (K : Kf N w0 b0 g c f n hh off cap qg lo hi a g1 g2 g3 r l w) (hn : 0 < n) : blkOf (.slice (some ⟨hh, off, none⟩) n cap) = some hh := by
  obtain ⟨h', o', c', e, h1, _⟩ := K.F.at_ hn
  injection e with e1 e2 e3
  subst e3
  exact blkOf_pos (by omega)
theorem Kf.drew (K : Kf N w0 b0 g c f n hh off cap qg lo hi a g1 g2 g3 r l w) : Kf N w0 b0 g c f n hh off cap qg lo hi a g1 g2 g3 r l w.drew :=
  ⟨K.F.drew, K.A, K.G1, K.G2, K.G3, K.Q, K.R, K.hN, K.X⟩
theorem Kf.below (K : Kf N w0 b0 g c f n hh off cap qg lo hi a g1 g2 g3 r l w) {k : Nat} (hb : Below k w w') (hk : w.heap.size ≤ k) : Kf N w0 b0 g c f n hh off cap qg lo hi a g1 g2 g3 r l w' :=
  ⟨K.F.below hb hk, K.A.below hb (by have := K.A.lt; omega), by obtain ⟨x, y, G⟩ := K.G1; exact ⟨x, y, G.below hb (by have := G.lt; omega)⟩, by obtain ⟨x, y, G⟩ := K.G2; exact ⟨x, y, G.below hb (by have := G.lt; omega)⟩, K.G3.below hb (by have := K.G3.lt; omega), K.Q.below hb (by have := K.Q.lt; omega), K.R.below hb (by have := K.R.lt; omega), Nat.le_trans K.hN hb.size, fun i hi' h1 h2 => (hb.block i (by have := K.hN; omega)).trans (K.X i hi' h1 h2)⟩
theorem Kf.congr {f' : Nat → Sx} (K : Kf N w0 b0 g c f n hh off cap qg lo hi a g1 g2 g3 r l w) (e : ∀ i, i < n → f i = f' i) : Kf N w0 b0 g c f' n hh off cap qg lo hi a g1 g2 g3 r l w :=
  ⟨K.F.congr e, K.A, K.G1, K.G2, K.G3, K.Q, K.R, K.hN, K.X⟩
/-- A chunk's field is written. -/
theorem Kf.setH (K : Kf N w0 b0 g c f n hh off cap qg lo hi a g1 g2 g3 r l w) (D : Df N b0 g hh qg a g1 g2 g3 r) {i j : Nat} (hi' : i < n) (hj : j < 22) (u : Value) (y : Sx) (hy : (sx (f i)).setIfInBounds j u = sx y) :
    Kf N w0 b0 g c (upd f i y) n hh off cap qg lo hi a g1 g2 g3 r l (w.setCell ⟨hh, off + i * 22 + j, none⟩ u) := by
  have hb := K.blk (by omega)
  refine ⟨⟨K.F.B.far (p := ⟨hh, off + i * 22 + j, none⟩) D.gh _, ?_, K.F.hg, K.F.hn⟩, K.A.far (p := ⟨hh, off + i * 22 + j, none⟩) (Ne.symm D.ha) _, ?_, ?_, K.G3.far (p := ⟨hh, off + i * 22 + j, none⟩) (Ne.symm D.h3) _, K.Q.far (p := ⟨hh, off + i * 22 + j, none⟩) D.qh _, K.R.far (p := ⟨hh, off + i * 22 + j, none⟩) D.rh _, size_set _ _ K.hN, fun k hk h1 h2 => (Below.heap_setCell w _ _ k (h2)).trans (K.X k hk h1 h2)⟩
  · have := K.F.q.set_ rfl (i * 22 + j) (by omega) u
    rw [cellsF_set f hi' hj u y hy, ← Nat.add_assoc] at this
    exact this
  · obtain ⟨x, y, G⟩ := K.G1; exact ⟨x, y, G.far (p := ⟨hh, off + i * 22 + j, none⟩) (Ne.symm D.h1) _⟩
  · obtain ⟨x, y, G⟩ := K.G2; exact ⟨x, y, G.far (p := ⟨hh, off + i * 22 + j, none⟩) (Ne.symm D.h2) _⟩
theorem Kf.set1 (K : Kf N w0 b0 g c f n hh off cap qg lo hi a g1 g2 g3 r l w) (D : Df N b0 g hh qg a g1 g2 g3 r) (hn : 0 < n) (v : Int) :
    Kf N w0 b0 g c f n hh off cap qg lo hi a g1 g2 g3 r l (w.setCell ⟨g1, 1, none⟩ (.int .i64 v)) := by
  have hb := K.blk hn
  refine ⟨⟨K.F.B.far (p := ⟨g1, 1, none⟩) D.g_1 _, K.F.q.far (p := ⟨g1, 1, none⟩) (fun e => D.h1 (Option.some.inj (hb.symm.trans e))) _, K.F.hg, K.F.hn⟩, K.A.far (p := ⟨g1, 1, none⟩) D.a1 _, ?_, ?_, K.G3.far (p := ⟨g1, 1, none⟩) (Ne.symm D.n13) _, K.Q.far (p := ⟨g1, 1, none⟩) D.q1 _, K.R.far (p := ⟨g1, 1, none⟩) D.r1 _, size_set _ _ K.hN, fun k hk h1 h2 => (Below.heap_setCell w _ _ k (show k ≠ g1 by have := D.N1; omega)).trans (K.X k hk h1 h2)⟩
  · obtain ⟨x, y, G⟩ := K.G1; exact ⟨x, v, G.set_ 1 _⟩
  · obtain ⟨x, y, G⟩ := K.G2; exact ⟨x, y, G.far (p := ⟨g1, 1, none⟩) (Ne.symm D.n12) _⟩
theorem Kf.set2 (K : Kf N w0 b0 g c f n hh off cap qg lo hi a g1 g2 g3 r l w) (D : Df N b0 g hh qg a g1 g2 g3 r) (hn : 0 < n) (v : Int) :
    Kf N w0 b0 g c f n hh off cap qg lo hi a g1 g2 g3 r l (w.setCell ⟨g2, 1, none⟩ (.int .i64 v)) := by
  have hb := K.blk hn
  refine ⟨⟨K.F.B.far (p := ⟨g2, 1, none⟩) D.g_2 _, K.F.q.far (p := ⟨g2, 1, none⟩) (fun e => D.h2 (Option.some.inj (hb.symm.trans e))) _, K.F.hg, K.F.hn⟩, K.A.far (p := ⟨g2, 1, none⟩) D.a2 _, ?_, ?_, K.G3.far (p := ⟨g2, 1, none⟩) (Ne.symm D.n23) _, K.Q.far (p := ⟨g2, 1, none⟩) D.q2 _, K.R.far (p := ⟨g2, 1, none⟩) D.r2 _, size_set _ _ K.hN, fun k hk h1 h2 => (Below.heap_setCell w _ _ k (show k ≠ g2 by have := D.N2; omega)).trans (K.X k hk h1 h2)⟩
  · obtain ⟨x, y, G⟩ := K.G1; exact ⟨x, y, G.far (p := ⟨g2, 1, none⟩) D.n12 _⟩
  · obtain ⟨x, y, G⟩ := K.G2; exact ⟨x, v, G.set_ 1 _⟩
theorem Kf.set3 (K : Kf N w0 b0 g c f n hh off cap qg lo hi a g1 g2 g3 r l w) (D : Df N b0 g hh qg a g1 g2 g3 r) (hn : 0 < n) :
    Kf N w0 b0 g c f n hh off cap qg lo hi a g1 g2 g3 r true (w.setCell ⟨g3, 1, none⟩ (.bool true)) := by
  have hb := K.blk hn
  refine ⟨⟨K.F.B.far (p := ⟨g3, 1, none⟩) D.g_3 _, K.F.q.far (p := ⟨g3, 1, none⟩) (fun e => D.h3 (Option.some.inj (hb.symm.trans e))) _, K.F.hg, K.F.hn⟩, K.A.far (p := ⟨g3, 1, none⟩) D.a3 _, ?_, ?_, K.G3.set_ 1 _, K.Q.far (p := ⟨g3, 1, none⟩) D.q3 _, K.R.far (p := ⟨g3, 1, none⟩) D.r3 _, size_set _ _ K.hN, fun k hk h1 h2 => (Below.heap_setCell w _ _ k (show k ≠ g3 by have := D.N3; omega)).trans (K.X k hk h1 h2)⟩
  · obtain ⟨x, y, G⟩ := K.G1; exact ⟨x, y, G.far (p := ⟨g3, 1, none⟩) D.n13 _⟩
  · obtain ⟨x, y, G⟩ := K.G2; exact ⟨x, y, G.far (p := ⟨g3, 1, none⟩) D.n23 _⟩
/-- A chunk's cell. -/
theorem Kf.cel (K : Kf N w0 b0 g c f n hh off cap qg lo hi a g1 g2 g3 r l w) {i : Nat} (hi' : i < n) : Cel w hh (off + i * 22) (sx (f i)) := by
  obtain ⟨h', o', c', e, _, _, _, _, _, C⟩ := K.F.at_ hi'
  injection e with e1 e2 e3
  injection e1 with e4
  injection e4 with e5 e6
  subst e5 e6
  exact C
end
end Go.Proofs.Ythddacgdmngfhaa.fli
