/- Layer 21: a sack of no flight; the statement's own example. -/
import Derived.Test.YthddacgdmngfhaaFliH
namespace Go.Proofs.Ythddacgdmngfhaa.fli
open Go.Sort (grow)
open Go.ChangeShapes Go.WideShapes Go.ChangeAt Go.RowKit kit
set_option maxRecDepth 100000

theorem sack_nil (p : Nat) (hp : p ≤ 3) (c n : Int) (w : World) : Calls Try.prog 76 #[.pointer none, .int .u32 c, .slice none 0 0, .int .i64 p, .int .i64 n] w fun e w' => (∃ g1 g2 g3 : Nat, e = .returned (.agg #[.bool false, .slice (some ⟨g1, 0, none⟩) p p, .slice (some ⟨g2, 0, none⟩) p p, .slice (some ⟨g3, 0, none⟩) p p])) ∧ Below w.heap.size w w' := by
  have R1 := Blk.new w 130 #[.bool false, .slice none 0 0, .slice none 0 0, .slice none 0 0]
  have bel1 := (Below.refl w.heap.size w).alloc (Nat.le_refl _) (.cells #[.bool false, .slice none 0 0, .slice none 0 0, .slice none 0 0] 130)
  go_enter Try.func76, Try.ntmps76
  go_upto_region 1 with (fail)
  generalize w.alloc (.cells #[.bool false, .slice none 0 0, .slice none 0 0, .slice none 0 0] 130) = w1 at *
  generalize hrr : w.heap.size = r at *
  go_wp2_with fail
  refine (told_any p hp _).mono ?_
  rintro e w2 ⟨g1, g2, g3, rfl, hg12, hs1, hs2, G1, G2, hb2⟩
  have R2 := R1.below hb2 R1.lt
  have bel2 := bel1.trans (hb2.mono (by have := R1.lt; omega))
  have hrs := R2.lt
  clear G1 G2 R1 bel1 hs1 hs2 hg12 hb2
  go_upto_region 3 with (fail)
  have A3 := Blk.new w2 130 #[.bool false, .slice (some ⟨g1, 0, none⟩) p p, .slice (some ⟨g2, 0, none⟩) p p, .slice (some ⟨g3, 0, none⟩) p p]
  have R3 := R2.alloc (.cells #[.bool false, .slice (some ⟨g1, 0, none⟩) p p, .slice (some ⟨g2, 0, none⟩) p p, .slice (some ⟨g3, 0, none⟩) p p] 130)
  have bel3 := bel2.alloc (by omega) (.cells #[.bool false, .slice (some ⟨g1, 0, none⟩) p p, .slice (some ⟨g2, 0, none⟩) p p, .slice (some ⟨g3, 0, none⟩) p p] 130)
  clear R2 bel2
  generalize w2.alloc (.cells #[.bool false, .slice (some ⟨g1, 0, none⟩) p p, .slice (some ⟨g2, 0, none⟩) p p, .slice (some ⟨g3, 0, none⟩) p p] 130) = w3 at *
  generalize w2.heap.size = a at *
  have sz := szK (.bool false) (.slice (some ⟨g1, 0, none⟩) p p) (.slice (some ⟨g2, 0, none⟩) p p) (.slice (some ⟨g3, 0, none⟩) p p)
  go_wp2_with (first | (refine wpList_load_at rfl 130 _ rfl a 0 rfl #[.bool false, .slice (some ⟨g1, 0, none⟩) p p, .slice (some ⟨g2, 0, none⟩) p p, .slice (some ⟨g3, 0, none⟩) p p] _ (Cel.of_blk A3) Try.underlying130 rfl sz ?_) | (refine wpList_store_at rfl 130 _ _ rfl r 0 #[.bool false, .slice (some ⟨g1, 0, none⟩) p p, .slice (some ⟨g2, 0, none⟩) p p, .slice (some ⟨g3, 0, none⟩) p p] rfl rfl #[.bool false, .slice none 0 0, .slice none 0 0, .slice none 0 0] (Cel.of_blk R3) sz rfl (ac_one _ _ _ _ _) ?_))
  have Z := (Cel.of_blk R3).setCells_same (#[.bool false, .slice (some ⟨g1, 0, none⟩) p p, .slice (some ⟨g2, 0, none⟩) p p, .slice (some ⟨g3, 0, none⟩) p p] : Array Value).toList rfl
  exact bodyPost_ret (v := .agg #[.bool false, .slice (some ⟨g1, 0, none⟩) p p, .slice (some ⟨g2, 0, none⟩) p p, .slice (some ⟨g3, 0, none⟩) p p]) (results_cell_at rfl _ _ r 0 #[.bool false, .slice (some ⟨g1, 0, none⟩) p p, .slice (some ⟨g2, 0, none⟩) p p, .slice (some ⟨g3, 0, none⟩) p p] _ rfl (Z.congr rfl) Try.underlying130 rfl sz) rfl ⟨⟨g1, g2, g3, rfl⟩, by rw [hrr]; exact below_setCells bel3 (Nat.le_refl _) 0 _⟩
theorem len_emp (g h cap : Nat) (u : Int) (w : World) (B : Blk w g 229 #[.int .u32 u, .slice (some ⟨h, 0, none⟩) 0 cap]) : Calls Try.prog 134 #[.pointer (some ⟨g, 0, none⟩)] w fun e w' => e = .returned (.int .i64 0) ∧ w' = w := by
  have c1 : w.cell? ⟨g, 1, none⟩ = some (.slice (some ⟨h, 0, none⟩) 0 cap) := B.cell 1
  go_enter Try.func134, Try.ntmps134
  go_wp2_with fail
  go_ret
  exact ⟨rfl, rfl⟩
theorem chE : ch 0 5 ⟨#[120]⟩ = #[.int .i64 0, .int .i64 0, .int .u32 5, .int .i64 0, .int .i64 0, .int .u32 0, .string ⟨#[120]⟩, .int .u32 0, .int .u32 0, .int .i64 0, .int .i64 0, .slice none 0 0, .slice none 0 0, .slice none 0 0, .slice none 0 0] := rfl
set_option maxHeartbeats 2000000 in
theorem awake21 (w : World) : Calls Try.prog 79 #[] w fun e w' => e = .returned (.bool true) ∧ Below w.heap.size w w' := by
  go_enter Try.func79, Try.ntmps79
  go_wp2_with fail
  refine (new_fl _).mono ?_
  rintro e w1 ⟨rfl, hw1⟩
  have B1 := Blk.new w 229 #[.int .u32 4, .slice none 0 0]
  have bel1 := (Below.refl w.heap.size w).alloc (Nat.le_refl _) (.cells #[.int .u32 4, .slice none 0 0] 229)
  rw [← hw1] at B1 bel1
  clear hw1
  generalize hg : w.heap.size = g at *
  go_wp2_with fail
  refine (add_one g g _ B1 (Nat.le_refl _)).mono ?_
  rintro e w2 ⟨rfl, ⟨h, cap, F2⟩, hb2⟩
  rw [chE]
  have bel2 := bel1.trans hb2
  clear B1 bel1 hb2
  have hgl := F2.B.lt
  have hhl := F2.C.lt
  have C3 := Blk.new w2 40 #[.int .i64 0, .int .i64 0, .int .u32 5, .int .i64 0, .int .i64 0, .int .u32 0, .string ⟨#[120]⟩, .int .u32 0, .int .u32 0, .int .i64 0, .int .i64 0, .slice none 0 0, .slice none 0 0, .slice none 0 0, .slice none 0 0]
  have F3 : Fl g g h cap (w2.alloc (.cells #[.int .i64 0, .int .i64 0, .int .u32 5, .int .i64 0, .int .i64 0, .int .u32 0, .string ⟨#[120]⟩, .int .u32 0, .int .u32 0, .int .i64 0, .int .i64 0, .slice none 0 0, .slice none 0 0, .slice none 0 0, .slice none 0 0] 40)) := ⟨F2.B.alloc _, F2.ne, F2.hg, F2.hh, F2.c1, F2.c2, F2.C.alloc _⟩
  have bel3 := bel2.alloc (by omega) (.cells #[.int .i64 0, .int .i64 0, .int .u32 5, .int .i64 0, .int .i64 0, .int .u32 0, .string ⟨#[120]⟩, .int .u32 0, .int .u32 0, .int .i64 0, .int .i64 0, .slice none 0 0, .slice none 0 0, .slice none 0 0, .slice none 0 0] 40)
  go_upto_region 3 with (fail)
  clear F2 bel2
  generalize w2.alloc (.cells #[.int .i64 0, .int .i64 0, .int .u32 5, .int .i64 0, .int .i64 0, .int .u32 0, .string ⟨#[120]⟩, .int .u32 0, .int .u32 0, .int .i64 0, .int .i64 0, .slice none 0 0, .slice none 0 0, .slice none 0 0, .slice none 0 0] 40) = w3 at *
  have hcl := C3.lt
  have hcg : g < w2.heap.size := hgl
  generalize w2.heap.size = c at *
  go_wp2_with fail
  refine (sack_one g g h cap c _ F3 C3 (by omega) (by omega)).mono ?_
  rintro e w4 ⟨g1, g2, g3, rfl, B4, G1, G2, hs1, hs2, X4, hb4⟩
  have bel4 := bel3.trans hb4
  have hg1 := G1.lt
  have hg2 := G2.lt
  have hc4 := X4.lt
  have hgl4 := B4.lt
  clear C3 F3 bel3 hb4
  go_upto_region 4 with (fail)
  have A5 := Blk.new w4 130 #[.bool true, .slice (some ⟨g1, 0, none⟩) 1 1, .slice (some ⟨g2, 0, none⟩) 1 1, .slice (some ⟨g3, 0, none⟩) 1 1]
  have B5 := B4.alloc (.cells #[.bool true, .slice (some ⟨g1, 0, none⟩) 1 1, .slice (some ⟨g2, 0, none⟩) 1 1, .slice (some ⟨g3, 0, none⟩) 1 1] 130)
  have X5 := X4.alloc (.cells #[.bool true, .slice (some ⟨g1, 0, none⟩) 1 1, .slice (some ⟨g2, 0, none⟩) 1 1, .slice (some ⟨g3, 0, none⟩) 1 1] 130)
  have H1 := G1.alloc (.cells #[.bool true, .slice (some ⟨g1, 0, none⟩) 1 1, .slice (some ⟨g2, 0, none⟩) 1 1, .slice (some ⟨g3, 0, none⟩) 1 1] 130)
  have H2 := G2.alloc (.cells #[.bool true, .slice (some ⟨g1, 0, none⟩) 1 1, .slice (some ⟨g2, 0, none⟩) 1 1, .slice (some ⟨g3, 0, none⟩) 1 1] 130)
  have bel5 := bel4.alloc (by omega) (.cells #[.bool true, .slice (some ⟨g1, 0, none⟩) 1 1, .slice (some ⟨g2, 0, none⟩) 1 1, .slice (some ⟨g3, 0, none⟩) 1 1] 130)
  clear B4 X4 G1 G2 bel4
  generalize w4.alloc (.cells #[.bool true, .slice (some ⟨g1, 0, none⟩) 1 1, .slice (some ⟨g2, 0, none⟩) 1 1, .slice (some ⟨g3, 0, none⟩) 1 1] 130) = w5 at *
  generalize w4.heap.size = a at *
  have x2 : w5.cell? ⟨c, 2, none⟩ = some (.int .u32 5) := X5.cell 2
  have a0 : w5.cell? ⟨a, 0, none⟩ = some (.bool true) := A5.cell 0
  have a1 : w5.cell? ⟨a, 1, none⟩ = some (.slice (some ⟨g1, 0, none⟩) 1 1) := A5.cell 1
  have a2 : w5.cell? ⟨a, 2, none⟩ = some (.slice (some ⟨g2, 0, none⟩) 1 1) := A5.cell 2
  have u0 : w5.cell? ⟨g1, 0, none⟩ = some (.int .i64 1) := H1.cell 0
  have v0 : w5.cell? ⟨g2, 0, none⟩ = some (.int .i64 6) := H2.cell 0
  go_wp2_with fail
  refine (len_emp g h cap 5 _ B5).mono ?_
  rintro e w6 ⟨rfl, rfl⟩
  go_wp2_with fail
  go_ret
  exact ⟨rfl, by rw [hg]; exact bel5⟩
end Go.Proofs.Ythddacgdmngfhaa.fli
