/- Layer 18: what is read; the statement's own example; the law. -/
import Derived.Test.YthddacgdmngfhaaDelE
namespace Go.Proofs.Ythddacgdmngfhaa.del
open Go.Sort (grow)
open Go.ChangeShapes Go.WideShapes Go.ChangeAt Go.RowKit kit
set_option maxRecDepth 100000

theorem read_none (g : Nat) (w : World) (c1 : w.cell? ⟨g, 1, none⟩ = some (.slice none 0 0)) (hg : g < w.heap.size) : Calls Try.prog 51 #[.pointer (some ⟨g, 0, none⟩)] w fun e w' => e = .returned (.tuple #[.agg #[.int .i64 0, .int .i64 0, .bool false, .int .u32 0, .string ⟨#[]⟩], .bool false]) ∧ Below w.heap.size w w' := by
  have c2 : (w.alloc (.cells #[.int .i64 0, .int .i64 0, .bool false, .int .u32 0, .string ⟨#[]⟩] 30)).cell? ⟨g, 1, none⟩ = some (.slice none 0 0) := ((Below.refl w.heap.size w).alloc (Nat.le_refl _) (.cells (ms 0 0 false 0 ⟨#[]⟩) 30)).cell (p := ⟨g, 1, none⟩) hg |>.trans c1
  go_enter Try.func51, Try.ntmps51
  go_wp2_with fail
  refine (ready_of g none 0 0 _ c2).mono ?_
  rintro e w1 ⟨rfl, rfl⟩
  clear c1 c2
  go_wp2_with fail
  have B := Blk.new w 30 (ms 0 0 false 0 ⟨#[]⟩)
  have bel := (Below.refl w.heap.size w).alloc (Nat.le_refl _) (.cells (ms 0 0 false 0 ⟨#[]⟩) 30)
  refine bodyPost_ret (v := .tuple #[.agg (ms 0 0 false 0 ⟨#[]⟩), .bool false]) ?_ rfl ⟨rfl, bel⟩
  rw [results_cell_tmp rfl]
  have h := run_loadVar_row (w.alloc (.cells (ms 0 0 false 0 ⟨#[]⟩) 30)) w.heap.size 30 30 _ (0, 0) _ B Try.underlying30 rfl (by kernel_rfl)
  have h2 : w.alloc (.cells (ms 0 0 false 0 ⟨#[]⟩) 30) = w.alloc (.cells #[.int .i64 0, .int .i64 0, .bool false, .int .u32 0, .string ⟨#[]⟩] 30) := rfl
  rw [h2] at h
  simp [asAddr, h]
set_option maxHeartbeats 4000000 in
theorem read_two (b0 g h r cap sc : Nat) (hb : b0 ≤ g) (hr : r ≠ g) (hc : 2 ≤ cap) (w : World) (B : Blk w g 199 #[.slice (some ⟨h, 0, none⟩) 2 sc, .slice (some ⟨r, 0, none⟩) 2 cap, .int .i64 2]) (R : Cel w r 0 ma) :
    Calls Try.prog 51 #[.pointer (some ⟨g, 0, none⟩)] w fun e w' => e = .returned (.tuple #[.agg #[.int .i64 0, .int .i64 0, .bool false, .int .u32 0, .string ⟨#[97]⟩], .bool true]) ∧ (w'.cell? ⟨g, 1, none⟩ = some (.slice (some ⟨r, 5, none⟩) 1 (cap - 1)) ∧ g < w'.heap.size) ∧ Below b0 w w' := by
  have hgl := B.lt
  have hrl := R.lt
  have B1 := B.alloc (.cells #[.int .i64 0, .int .i64 0, .bool false, .int .u32 0, .string ⟨#[]⟩] 30)
  have R1 := R.alloc (.cells #[.int .i64 0, .int .i64 0, .bool false, .int .u32 0, .string ⟨#[]⟩] 30)
  have V1 := Blk.new w 30 #[.int .i64 0, .int .i64 0, .bool false, .int .u32 0, .string ⟨#[]⟩]
  have bel1 := (Below.refl b0 w).alloc (by omega) (.cells #[.int .i64 0, .int .i64 0, .bool false, .int .u32 0, .string ⟨#[]⟩] 30)
  go_enter Try.func51, Try.ntmps51
  go_upto_region 1 with (fail)
  clear B R
  generalize w.alloc (.cells #[.int .i64 0, .int .i64 0, .bool false, .int .u32 0, .string ⟨#[]⟩] 30) = w1 at *
  have g1 : w1.cell? ⟨g, 1, none⟩ = some (.slice (some ⟨r, 0, none⟩) 2 cap) := B1.cell 1
  go_wp2_with fail
  refine (ready_of g _ 2 cap _ g1).mono ?_
  rintro e w1 ⟨rfl, rfl⟩
  have r0 : w1.cell? ⟨r, 0, none⟩ = some (.int .i64 0) := R1.cell0 0 (u := .int .i64 0) rfl
  have r1 : w1.cell? ⟨r, 1, none⟩ = some (.int .i64 0) := R1.cell0 1 (u := .int .i64 0) rfl
  have r2 : w1.cell? ⟨r, 2, none⟩ = some (.bool false) := R1.cell0 2 (u := .bool false) rfl
  have r3 : w1.cell? ⟨r, 3, none⟩ = some (.int .u32 0) := R1.cell0 3 (u := .int .u32 0) rfl
  have r4 : w1.cell? ⟨r, 4, none⟩ = some (.string ⟨#[97]⟩) := R1.cell0 4 (u := .string ⟨#[97]⟩) rfl
  go_upto_region 4 with (fail)
  have B2 := B1.alloc (.cells #[.int .i64 0, .int .i64 0, .bool false, .int .u32 0, .string ⟨#[97]⟩] 30)
  have V2 := V1.alloc (.cells #[.int .i64 0, .int .i64 0, .bool false, .int .u32 0, .string ⟨#[97]⟩] 30)
  have U2 := Blk.new w1 30 #[.int .i64 0, .int .i64 0, .bool false, .int .u32 0, .string ⟨#[97]⟩]
  have bel2 := bel1.alloc (by have := B1.lt; omega) (.cells #[.int .i64 0, .int .i64 0, .bool false, .int .u32 0, .string ⟨#[97]⟩] 30)
  have hs1 : w.heap.size < w1.heap.size := V1.lt
  have hg1 := B1.lt
  clear B1 V1 bel1 g1 r0 r1 r2 r3 r4 R1
  generalize w1.alloc (.cells #[.int .i64 0, .int .i64 0, .bool false, .int .u32 0, .string ⟨#[97]⟩] 30) = w2 at *
  have g1 : w2.cell? ⟨g, 1, none⟩ = some (.slice (some ⟨r, 0, none⟩) 2 cap) := B2.cell 1
  have f1 : w2.frozen? ⟨g, 1, none⟩ = false := B2.frozen 1
  go_upto_region 5 with (fail)
  have B3 : Blk (w2.setCell ⟨g, 1, none⟩ (.slice (some ⟨r, 5, none⟩) 1 (cap - 1))) g 199 #[.slice (some ⟨h, 0, none⟩) 2 sc, .slice (some ⟨r, 5, none⟩) 1 (cap - 1), .int .i64 2] := B2.set_ 1 _
  have V3 := V2.far (p := ⟨g, 1, none⟩) (by show w.heap.size ≠ g; omega) (.slice (some ⟨r, 5, none⟩) 1 (cap - 1))
  have U3 := U2.far (p := ⟨g, 1, none⟩) (by show w1.heap.size ≠ g; omega) (.slice (some ⟨r, 5, none⟩) 1 (cap - 1))
  have bel3 := bel2.setCell (p := ⟨g, 1, none⟩) hb (.slice (some ⟨r, 5, none⟩) 1 (cap - 1))
  clear B2 V2 U2 bel2 g1 f1
  generalize w2.setCell ⟨g, 1, none⟩ (.slice (some ⟨r, 5, none⟩) 1 (cap - 1)) = w3 at *
  have g2 : w3.cell? ⟨g, 2, none⟩ = some (.int .i64 2) := B3.cell 2
  have f2 : w3.frozen? ⟨g, 2, none⟩ = false := B3.frozen 2
  have u4 : w3.cell? ⟨w1.heap.size, 4, none⟩ = some (.string ⟨#[97]⟩) := U3.cell 4
  go_region
  have B4 : Blk ((w3.setCell ⟨g, 2, none⟩ (.int .i64 1)).drew) g 199 #[.slice (some ⟨h, 0, none⟩) 2 sc, .slice (some ⟨r, 5, none⟩) 1 (cap - 1), .int .i64 1] := (B3.set_ 2 _).drew
  have V4 := (V3.far (p := ⟨g, 2, none⟩) (by show w.heap.size ≠ g; omega) (.int .i64 1)).drew
  have U4 := (U3.far (p := ⟨g, 2, none⟩) (by show w1.heap.size ≠ g; omega) (.int .i64 1)).drew
  have bel4 := (bel3.setCell (p := ⟨g, 2, none⟩) hb (.int .i64 1)).drew
  clear B3 V3 U3 bel3 g2 f2 u4
  generalize (w3.setCell ⟨g, 2, none⟩ (.int .i64 1)).drew = w4 at *
  go_upto_region 6 with (fail)
  have sz : (Try.prog.info? 30).map (·.size) = some (Array.size #[Value.int .i64 0, .int .i64 0, .bool false, .int .u32 0, .string ⟨#[97]⟩]) := szM
  have sw : w.heap.size ≠ g := by omega
  go_wp2_with (first | (refine wpList_load_at rfl 30 _ rfl w1.heap.size 0 rfl #[.int .i64 0, .int .i64 0, .bool false, .int .u32 0, .string ⟨#[97]⟩] _ (Cel.of_blk U4) Try.underlying30 rfl sz ?_) | (refine wpList_store_at rfl 30 _ _ rfl w.heap.size 0 #[.int .i64 0, .int .i64 0, .bool false, .int .u32 0, .string ⟨#[97]⟩] rfl rfl _ (Cel.of_blk V4) sz rfl (by kernel_rfl) ?_))
  have K := (Cel.of_blk V4).setCells_same [.int .i64 0, .int .i64 0, .bool false, .int .u32 0, .string ⟨#[97]⟩] rfl
  have BB := blk_setCells B4 (Ne.symm sw) 0 [.int .i64 0, .int .i64 0, .bool false, .int .u32 0, .string ⟨#[97]⟩]
  have belE := below_setCells bel4 (show b0 ≤ w.heap.size by omega) 0 [.int .i64 0, .int .i64 0, .bool false, .int .u32 0, .string ⟨#[97]⟩]
  exact bodyPost_ret (v := .tuple #[.agg #[.int .i64 0, .int .i64 0, .bool false, .int .u32 0, .string ⟨#[97]⟩], .bool true]) (by rw [results_cell_tmp_at rfl _ _ w.heap.size 0 #[.int .i64 0, .int .i64 0, .bool false, .int .u32 0, .string ⟨#[97]⟩] _ rfl K Try.underlying30 rfl sz]; rfl) rfl ⟨rfl, ⟨BB.cell 1, BB.lt⟩, belE⟩
set_option maxHeartbeats 4000000 in
theorem awake18_any (w : World) : Calls Try.prog 50 #[] w fun e w' => e = .returned (.bool true) ∧ Below w.heap.size w w' := by
  go_enter Try.func50, Try.ntmps50
  go_wp2_with fail
  refine (new_two _).mono ?_
  rintro e w1 ⟨rfl, ⟨h, m, q1⟩, bel1⟩
  go_wp2_with fail
  refine (put_of w.heap.size w.heap.size h m 0 1 0 (.inr rfl) (by omega) (by omega) 98 #[] (.slice none 0 0) rfl w1 q1 (fun w2 w3 => Below w2.heap.size w2 w3) (fun w2 q2 => follow_none w.heap.size h m 1 0 _ rfl w2 q2.C q2.M)).mono ?_
  rintro e w3 ⟨rfl, w2, q2, bl2, bl3⟩
  have bel2 := bel1.trans bl2
  have q3 := q2.below bl3 (Nat.le_refl _)
  have bel3 := bel2.trans (bl3.mono bel2.size)
  clear q1 q2 bel1 bl2 bl3 bel2
  obtain ⟨cap, B3, hc1, hc2⟩ := q3.B
  have hgl := B3.lt
  have g1 : w3.cell? ⟨w.heap.size, 1, none⟩ = some (.slice none 0 0) := B3.cell 1
  go_wp2_with fail
  refine (read_none w.heap.size w3 g1 hgl).mono ?_
  rintro e w4 ⟨rfl, bl4⟩
  have q4 := q3.below bl4 (Nat.le_refl _)
  have bel4 := bel3.trans (bl4.mono bel3.size)
  clear q3 B3 g1 bl4 bel3 hc1 hc2 hgl
  go_wp2_with fail
  have q5 := q4.below ((Below.refl w4.heap.size w4).alloc (Nat.le_refl _) (.cells #[.int .i64 0, .int .i64 0, .bool false, .int .u32 0, .string ⟨#[]⟩] 30)) (Nat.le_refl _)
  have bel5 := bel4.alloc bel4.size (.cells #[.int .i64 0, .int .i64 0, .bool false, .int .u32 0, .string ⟨#[]⟩] 30)
  generalize w4.alloc (.cells #[.int .i64 0, .int .i64 0, .bool false, .int .u32 0, .string ⟨#[]⟩] 30) = w5 at *
  clear q4 bel4
  refine (put_of w.heap.size w.heap.size h m 1 0 1 (.inl rfl) (by omega) (by omega) 97 _ (.slice none 0 0) rfl w5 q5 (fun w2 w3 => Fol w.heap.size w.heap.size h m 2 w3 ∧ Below w.heap.size w2 w3) (fun w2 q2 => follow_two w.heap.size w.heap.size h m w2 q2)).mono ?_
  rintro e w7 ⟨rfl, w6, q6, bl6, ⟨l, q7, own7, hne7⟩, bl7⟩
  have bel7 := (bel5.trans bl6).trans bl7
  clear q5 q6 bel5 bl6 bl7
  rcases own7.2 with ⟨rfl, hk0⟩ | ⟨r, cap7, cur, rfl, hbr, hgr, hkc, hcm, hcs, _⟩
  · exact absurd hk0 (by omega)
  have hrg : r ≠ w.heap.size := (hne7 r rfl).1
  have K : Cel w7 r 0 ma := ((Cel.of_owns own7).sub 0 5).congr rfl
  obtain ⟨cap, B7, hc1, hc2⟩ := q7.B
  clear own7 hgr hne7 q7
  go_wp2_with fail
  refine (read_two w.heap.size w.heap.size h r cap7 cap (Nat.le_refl _) hrg (by omega) w7 B7 K).mono ?_
  rintro e w8 ⟨rfl, ⟨g8, hgl8⟩, bl8⟩
  have bel8 := bel7.trans bl8
  clear bel7 bl8 B7 K
  have V9 := Blk.new w8 30 #[.int .i64 0, .int .i64 0, .bool false, .int .u32 0, .string ⟨#[97]⟩]
  have bel9 := bel8.alloc bel8.size (.cells #[.int .i64 0, .int .i64 0, .bool false, .int .u32 0, .string ⟨#[97]⟩] 30)
  have g9 : (w8.alloc (.cells #[.int .i64 0, .int .i64 0, .bool false, .int .u32 0, .string ⟨#[97]⟩] 30)).cell? ⟨w.heap.size, 1, none⟩ = some (.slice (some ⟨r, 5, none⟩) 1 (cap7 - 1)) := (((Below.refl w8.heap.size w8).alloc (Nat.le_refl _) (.cells #[.int .i64 0, .int .i64 0, .bool false, .int .u32 0, .string ⟨#[97]⟩] 30)).cell (p := ⟨w.heap.size, 1, none⟩) hgl8).trans g8
  go_upto_region 6 with (fail)
  generalize w8.alloc (.cells #[.int .i64 0, .int .i64 0, .bool false, .int .u32 0, .string ⟨#[97]⟩] 30) = w9 at *
  have v4 : w9.cell? ⟨w8.heap.size, 4, none⟩ = some (.string ⟨#[97]⟩) := V9.cell 4
  go_wp2_with fail
  refine (ready_of w.heap.size _ 1 _ _ g9).mono ?_
  rintro e w10 ⟨rfl, rfl⟩
  go_wp2_with fail
  go_ret
  exact ⟨rfl, bel9⟩
end Go.Proofs.Ythddacgdmngfhaa.del
