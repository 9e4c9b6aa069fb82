/- Layer 21: a sack comes. -/
import Derived.Test.YthddacgdmngfhaaFliG
namespace Go.Proofs.Ythddacgdmngfhaa.fli
open Go.Sort (grow)
open Go.ChangeShapes Go.WideShapes Go.ChangeAt Go.RowKit kit
set_option maxRecDepth 100000

section
variable {b0 g h a g1 g2 g3 r c : Nat} {u : Int} {l : Value} {m : Bool} {x y : Int} {cs : Array Value} {w w' : World}
theorem Kn.below {B : Nat} (K : Kn g h a g1 g2 g3 r c u l m x y cs w) (hb : Below B w w') (hg : g < B) (hh : h < B) (ha : a < B) (h1 : g1 < B) (h2 : g2 < B) (hr : r < B) (hc : c < B) : Kn g h a g1 g2 g3 r c u l m x y cs w' :=
  ⟨K.B.below hb hg, K.C.below hb hh, K.A.below hb ha, K.G1.below hb h1, K.G2.below hb h2, K.R.below hb hr, K.X.below hb hc⟩
theorem Kn.setM (K : Kn g h a g1 g2 g3 r c u l m x y cs w) (D : Dn b0 g h a g1 g2 r c) (v : Bool) : Kn g h a g1 g2 g3 r c u l v x y cs (w.setCell ⟨a, 0, none⟩ (.bool v)) :=
  ⟨K.B.far (p := ⟨a, 0, none⟩) D.ga _, K.C.far (p := ⟨a, 0, none⟩) D.ha _, K.A.set_ 0 _, K.G1.far (p := ⟨a, 0, none⟩) (Ne.symm D.a1) _, K.G2.far (p := ⟨a, 0, none⟩) (Ne.symm D.a2) _, K.R.far (p := ⟨a, 0, none⟩) D.ra _, K.X.far (p := ⟨a, 0, none⟩) D.ca _⟩
theorem Kn.setL (K : Kn g h a g1 g2 g3 r c u l m x y cs w) (D : Dn b0 g h a g1 g2 r c) (v : Value) : Kn g h a g1 g2 g3 r c u v m x y cs (w.setCell ⟨g, 1, none⟩ v) :=
  ⟨K.B.set_ 1 _, K.C.far (p := ⟨g, 1, none⟩) (Ne.symm D.gh) _, K.A.far (p := ⟨g, 1, none⟩) (Ne.symm D.ga) _, K.G1.far (p := ⟨g, 1, none⟩) (Ne.symm D.n1) _, K.G2.far (p := ⟨g, 1, none⟩) (Ne.symm D.n2) _, K.R.far (p := ⟨g, 1, none⟩) D.rg _, K.X.far (p := ⟨g, 1, none⟩) D.cg _⟩
theorem Kn.setU (K : Kn g h a g1 g2 g3 r c u l m x y cs w) (D : Dn b0 g h a g1 g2 r c) (v : Int) : Kn g h a g1 g2 g3 r c v l m x y cs (w.setCell ⟨g, 0, none⟩ (.int .u32 v)) :=
  ⟨K.B.set_ 0 _, K.C.far (p := ⟨g, 0, none⟩) (Ne.symm D.gh) _, K.A.far (p := ⟨g, 0, none⟩) (Ne.symm D.ga) _, K.G1.far (p := ⟨g, 0, none⟩) (Ne.symm D.n1) _, K.G2.far (p := ⟨g, 0, none⟩) (Ne.symm D.n2) _, K.R.far (p := ⟨g, 0, none⟩) D.rg _, K.X.far (p := ⟨g, 0, none⟩) D.cg _⟩
theorem Kn.zero (K : Kn g h a g1 g2 g3 r c u l m x y cs w) (D : Dn b0 g h a g1 g2 r c) (vs : List Value) (hl : vs.length = cs.size) : Kn g h a g1 g2 g3 r c u l m x y vs.toArray (w.setCells h 0 vs) :=
  ⟨blk_setCells K.B D.gh 0 vs, K.C.setCells_same vs hl, blk_setCells K.A (Ne.symm D.ha) 0 vs, blk_setCells K.G1 (Ne.symm D.h1) 0 vs, blk_setCells K.G2 (Ne.symm D.h2) 0 vs, blk_setCells K.R D.rh 0 vs, blk_setCells K.X D.ch 0 vs⟩
end
theorem ac_one (m : Bool) (a b c : Addr) (p : Nat) : (#[.bool m, .slice (some a) p p, .slice (some b) p p, .slice (some c) p p] : Array Value).all (·.oneCell') = true := by kernel_rfl
theorem ZI1 : ZI 1 = #[.int .i64 0] := rfl
theorem TK1 : TK 1 1 = #[.int .i64 (-1)] := rfl
set_option maxHeartbeats 4000000 in
theorem sack_one (b0 g h cap c : Nat) (w : World) (F : Fl b0 g h cap w) (X : Blk w c 40 (ch 0 5 ⟨#[120]⟩)) (hcg : c ≠ g) (hch : c ≠ h) :
    Calls Try.prog 76 #[.pointer (some ⟨g, 0, none⟩), .int .u32 5, .slice none 0 0, .int .i64 1, .int .i64 9] w fun e w' => ∃ g1 g2 g3 : Nat, e = .returned (.agg #[.bool true, .slice (some ⟨g1, 0, none⟩) 1 1, .slice (some ⟨g2, 0, none⟩) 1 1, .slice (some ⟨g3, 0, none⟩) 1 1]) ∧ Blk w' g 229 #[.int .u32 5, .slice (some ⟨h, 0, none⟩) 0 cap] ∧ Blk w' g1 3 #[.int .i64 1] ∧ Blk w' g2 3 #[.int .i64 6] ∧ w.heap.size ≤ g1 ∧ w.heap.size ≤ g2 ∧ Blk w' c 40 (ch 0 5 ⟨#[120]⟩) ∧ Below b0 w w' := by
  obtain ⟨B, hne, hbg, hbh, hc1, hc2, C⟩ := F
  have hgw := B.lt
  have hhw := C.lt
  have hcw := X.lt
  have X1 := X.alloc (.cells #[.bool false, .slice none 0 0, .slice none 0 0, .slice none 0 0] 130)
  have R1 := Blk.new w 130 #[.bool false, .slice none 0 0, .slice none 0 0, .slice none 0 0]
  have B1 := B.alloc (.cells #[.bool false, .slice none 0 0, .slice none 0 0, .slice none 0 0] 130)
  have C1 := C.alloc (.cells #[.bool false, .slice none 0 0, .slice none 0 0, .slice none 0 0] 130)
  have bel1 := (Below.refl b0 w).alloc (by omega) (.cells #[.bool false, .slice none 0 0, .slice none 0 0, .slice none 0 0] 130)
  go_enter Try.func76, Try.ntmps76
  go_upto_region 1 with (fail)
  clear B C X
  generalize w.alloc (.cells #[.bool false, .slice none 0 0, .slice none 0 0, .slice none 0 0] 130) = w1 at *
  have hgr : g ≠ w.heap.size := by omega
  have hhr : h ≠ w.heap.size := by omega
  have hcr : c ≠ w.heap.size := by omega
  have hbr : b0 ≤ w.heap.size := by omega
  generalize hrr : w.heap.size = r at *
  go_wp2_with fail
  refine (told_any 1 (by omega) _).mono ?_
  rintro e w2 ⟨g1, g2, g3, rfl, hg12, hs1, hs2, G1, G2, hb2⟩
  have R2 := R1.below hb2 R1.lt
  have B2 := B1.below hb2 B1.lt
  have C2 := C1.below hb2 C1.lt
  have X2 := X1.below hb2 X1.lt
  have hcw1 := X1.lt
  have hrw1 := R1.lt
  have hgw1 := B1.lt
  have hhw1 := C1.lt
  have bel2 := bel1.trans (hb2.mono (by omega))
  rw [ZI1] at G1
  rw [TK1] at G2
  go_upto_region 2 with (fail)
  have A3 := Blk.new w2 130 #[.bool false, .slice (some ⟨g1, 0, none⟩) 1 1, .slice (some ⟨g2, 0, none⟩) 1 1, .slice (some ⟨g3, 0, none⟩) 1 1]
  have K3 : Kn g h w2.heap.size g1 g2 g3 r c 4 (.slice (some ⟨h, 0, none⟩) 1 cap) false 0 (-1) se (w2.alloc (.cells #[.bool false, .slice (some ⟨g1, 0, none⟩) 1 1, .slice (some ⟨g2, 0, none⟩) 1 1, .slice (some ⟨g3, 0, none⟩) 1 1] 130)) := ⟨B2.alloc _, C2.alloc _, A3, G1.alloc _, G2.alloc _, R2.alloc _, X2.alloc _⟩
  have hg1l := G1.lt
  have hg2l := G2.lt
  have hb2s := hb2.size
  have D : Dn b0 g h w2.heap.size g1 g2 r c := ⟨Ne.symm hne, by omega, by omega, by omega, by omega, by omega, by omega, by omega, by omega, hg12, by omega, by omega, by omega, by omega, by omega, by omega, by omega, by omega, by omega, by omega, by omega, hcg, hch, by omega, by omega, by omega, by omega⟩
  have bel3 := bel2.alloc (by omega) (.cells #[.bool false, .slice (some ⟨g1, 0, none⟩) 1 1, .slice (some ⟨g2, 0, none⟩) 1 1, .slice (some ⟨g3, 0, none⟩) 1 1] 130)
  clear A3 B2 C2 X2 X1 G1 G2 R2 B1 C1 R1 bel1 bel2 hb2 hg1l hg2l hb2s
  generalize w2.alloc (.cells #[.bool false, .slice (some ⟨g1, 0, none⟩) 1 1, .slice (some ⟨g2, 0, none⟩) 1 1, .slice (some ⟨g3, 0, none⟩) 1 1] 130) = w3 at *
  generalize w2.heap.size = a at *
  have hu := hc2
  unfold maxLen at hc2
  have c0 : w3.cell? ⟨g, 0, none⟩ = some (.int .u32 4) := K3.B.cell 0
  have c1 : w3.cell? ⟨g, 1, none⟩ = some (.slice (some ⟨h, 0, none⟩) 1 cap) := K3.B.cell 1
  have a0 : w3.cell? ⟨a, 0, none⟩ = some (.bool false) := K3.A.cell 0
  have a0f : w3.frozen? ⟨a, 0, none⟩ = false := K3.A.frozen 0
  go_wp2_with fail
  refine (diff_one _).mono ?_
  rintro e w4 ⟨rfl, rfl⟩
  go_upto_region 8 with (fail)
  have K4 := K3.setM D true
  have bel4 := bel3.setCell (p := ⟨a, 0, none⟩) D.ba (.bool true)
  clear K3 bel3 c0 c1 a0 a0f
  generalize w4.setCell ⟨a, 0, none⟩ (.bool true) = w5 at *
  have c1 : w5.cell? ⟨g, 1, none⟩ = some (.slice (some ⟨h, 0, none⟩) 1 cap) := K4.B.cell 1
  go_wp2_with fail
  refine wp_loop_rounds 2 ?_
  rw [rounds_succ]
  go_wp2_with fail
  refine (come_one D _ K4).mono ?_
  rintro e w6 ⟨rfl, K6, bl6⟩
  have bel6 := bel4.trans bl6
  clear K4 bel4 bl6 c1
  go_wp2_with fail
  rw [rounds_succ]
  have c1 : w6.cell? ⟨g, 1, none⟩ = some (.slice (some ⟨h, 0, none⟩) 1 cap) := K6.B.cell 1
  go_wp2_with fail
  refine (delete_one h cap _ hc1 hu K6.C).mono ?_
  rintro e w7 ⟨rfl, hw7⟩
  have K7 := K6.drew.zero D zS.toList rfl
  have bel7 := below_setCells bel6.drew D.bh 0 zS.toList
  rw [← hw7] at K7 bel7
  clear hw7 K6 bel6 c1
  have f1 : w7.frozen? ⟨g, 1, none⟩ = false := K7.B.frozen 1
  have c1 : w7.cell? ⟨g, 1, none⟩ = some (.slice (some ⟨h, 0, none⟩) 1 cap) := K7.B.cell 1
  go_upto_region 14 with (fail)
  have K8 := K7.setL D (.slice (some ⟨h, 0, none⟩) 0 cap)
  have bel8 := bel7.setCell (p := ⟨g, 1, none⟩) D.bg (.slice (some ⟨h, 0, none⟩) 0 cap)
  clear K7 bel7 f1 c1
  generalize w7.setCell ⟨g, 1, none⟩ (.slice (some ⟨h, 0, none⟩) 0 cap) = w8 at *
  have f0 : w8.frozen? ⟨g, 0, none⟩ = false := K8.B.frozen 0
  have c0 : w8.cell? ⟨g, 0, none⟩ = some (.int .u32 4) := K8.B.cell 0
  go_upto_region 15 with (fail)
  have K9 := K8.setU D 5
  have bel9 := bel8.setCell (p := ⟨g, 0, none⟩) D.bg (.int .u32 5)
  clear K8 bel8 f0 c0
  generalize w8.setCell ⟨g, 0, none⟩ (.int .u32 5) = w9 at *
  go_wp2_with fail
  refine (gapped_none g h cap a 5 _ K9.B).mono ?_
  rintro e w10 ⟨rfl, rfl⟩
  go_wp2_with fail
  refine (miss_none g a _).mono ?_
  rintro e w11 ⟨rfl, rfl⟩
  have sz := szK (.bool true) (.slice (some ⟨g1, 0, none⟩) 1 1) (.slice (some ⟨g2, 0, none⟩) 1 1) (.slice (some ⟨g3, 0, none⟩) 1 1)
  go_wp2_with (first | (refine wpList_load_at rfl 130 _ rfl a 0 rfl #[.bool true, .slice (some ⟨g1, 0, none⟩) 1 1, .slice (some ⟨g2, 0, none⟩) 1 1, .slice (some ⟨g3, 0, none⟩) 1 1] _ (Cel.of_blk K9.A) Try.underlying130 rfl sz ?_) | (refine wpList_store_at rfl 130 _ _ rfl r 0 #[.bool true, .slice (some ⟨g1, 0, none⟩) 1 1, .slice (some ⟨g2, 0, none⟩) 1 1, .slice (some ⟨g3, 0, none⟩) 1 1] rfl rfl #[.bool false, .slice none 0 0, .slice none 0 0, .slice none 0 0] (Cel.of_blk K9.R) sz rfl (ac_one _ _ _ _ _) ?_))
  have Z := (Cel.of_blk K9.R).setCells_same (#[.bool true, .slice (some ⟨g1, 0, none⟩) 1 1, .slice (some ⟨g2, 0, none⟩) 1 1, .slice (some ⟨g3, 0, none⟩) 1 1] : Array Value).toList rfl
  exact bodyPost_ret (v := .agg #[.bool true, .slice (some ⟨g1, 0, none⟩) 1 1, .slice (some ⟨g2, 0, none⟩) 1 1, .slice (some ⟨g3, 0, none⟩) 1 1]) (results_cell_at rfl _ _ r 0 #[.bool true, .slice (some ⟨g1, 0, none⟩) 1 1, .slice (some ⟨g2, 0, none⟩) 1 1, .slice (some ⟨g3, 0, none⟩) 1 1] _ rfl (Z.congr rfl) Try.underlying130 rfl sz) rfl ⟨g1, g2, g3, rfl, blk_setCells K9.B (Ne.symm D.rg) 0 _, blk_setCells K9.G1 (Ne.symm D.r1) 0 _, blk_setCells K9.G2 (Ne.symm D.r2) 0 _, by omega, by omega, blk_setCells K9.X D.cr 0 _, below_setCells bel9 D.br 0 _⟩
end Go.Proofs.Ythddacgdmngfhaa.fli
