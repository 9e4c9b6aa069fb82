/- Layer 28: a request is answered, of any state: the four ways of Asked. -/
import Derived.Test.YtdocphkpeonldaaRecT
import Derived.Test.YtdocphkpeonldaaRecJ
namespace Go.Proofs.Ytdocphkpeonldaa.rec_
open Go.Sort (grow)
open Go.ChangeShapes Go.WideShapes Go.ChangeAt Go.RowKit kit oct
set_option maxRecDepth 100000

theorem szD' (i id : Int) (g cap : Nat) : (Try.prog.info? 43).map (·.size) = some (cd i id g cap).size := szD i id g cap
set_option maxHeartbeats 4000000 in
theorem asked_denied (b0 g h id m hv : Nat) (ny : Int) (L : Nat → Value) (gv : Bool) (hi : id ≤ 4294967295) (hm0 : m ≠ 0) (hm : m ≤ 16) (hh16 : hv ≤ 16) (hvm : 16 < hv + m) (hny : IntKind.u32.wrap ((id : Int) + 1) = ny) (w : World) (B : Blk w g 149 (sv id L gv)) (G : Blk w h 23 #[.int .i64 17, .string (mS id m)]) (hg : b0 ≤ g) :
    Calls Try.prog 30 #[.pointer (some ⟨g, 0, none⟩), .agg (cc 130 id h), .int .i64 hv] w fun e w' => ∃ k cap hh, e = .returned (.tuple #[.int .i64 0, .agg (cd 130 id k cap), .bool true]) ∧ w.heap.size ≤ hh ∧ Cel w' k 0 #[.int .i64 16, .string (rS id 2)] ∧ Blk w' hh 23 #[.int .i64 16, .string (rS id 2)] ∧ Blk w' g 149 (sv ny (fun j => (cc 130 id hh).getD j undef) true) ∧ Below b0 w w' := by
  have hgw := B.lt
  have hm1 : m ≠ 0 := hm0
  have S1 := ((Blk.new w 34 #[.pointer (some ⟨g, 0, none⟩)]).alloc (.cells (cc 130 id h) 43)).alloc (.cells c0 43)
  have X1 := (blk_new2 w (.cells #[.pointer (some ⟨g, 0, none⟩)] 34) 43 (cc 130 id h)).alloc (.cells c0 43)
  have R1 : Blk (((w.alloc (.cells #[.pointer (some ⟨g, 0, none⟩)] 34)).alloc (.cells (cc 130 id h) 43)).alloc (.cells c0 43)) (w.heap.size + 1 + 1) 43 c0 := by
    have := blk_new2 (w.alloc (.cells #[.pointer (some ⟨g, 0, none⟩)] 34)) (.cells (cc 130 id h) 43) 43 c0
    simpa using this
  have B1 := ((B.alloc (.cells #[.pointer (some ⟨g, 0, none⟩)] 34)).alloc (.cells (cc 130 id h) 43)).alloc (.cells c0 43)
  have G1 := ((G.alloc (.cells #[.pointer (some ⟨g, 0, none⟩)] 34)).alloc (.cells (cc 130 id h) 43)).alloc (.cells c0 43)
  have k1 := (((Keep.refl w.heap.size g w).alloc (Nat.le_refl _) (.cells #[.pointer (some ⟨g, 0, none⟩)] 34)).alloc (by simp) (.cells (cc 130 id h) 43)).alloc (by simp; omega) (.cells c0 43)
  have bel1 := (((Below.refl b0 w).alloc (by omega) (.cells #[.pointer (some ⟨g, 0, none⟩)] 34)).alloc (by simp; omega) (.cells (cc 130 id h) 43)).alloc (by simp; omega) (.cells c0 43)
  have bw1 := (((Below.refl w.heap.size w).alloc (Nat.le_refl _) (.cells #[.pointer (some ⟨g, 0, none⟩)] 34)).alloc (by simp) (.cells (cc 130 id h) 43)).alloc (by simp; omega) (.cells c0 43)
  go_enter Try.func30, Try.ntmps30
  go_upto_region 1 with (fail)
  rw [show ((w.alloc (.cells #[.pointer (some ⟨g, 0, none⟩)] 34)).alloc (.cells (cc 130 id h) 43)).alloc (.cells #[.int .i64 0, .int .i64 0, .int .u32 0, .int .i64 0, .int .i64 0, .int .u32 0, .string ⟨#[]⟩, .int .u32 0, .int .u32 0, .int .i64 0, .int .i64 0, .slice none 0 0, .slice none 0 0, .slice none 0 0, .slice none 0 0] 43) = ((w.alloc (.cells #[.pointer (some ⟨g, 0, none⟩)] 34)).alloc (.cells (cc 130 id h) 43)).alloc (.cells c0 43) from rfl]
  clear B G
  generalize ((w.alloc (.cells #[.pointer (some ⟨g, 0, none⟩)] 34)).alloc (.cells (cc 130 id h) 43)).alloc (.cells c0 43) = w1 at *
  generalize hrq : w.heap.size + 1 + 1 = r at *
  generalize hbcq : w.heap.size + 1 = bc at *
  generalize hbsq : w.heap.size = bs at *
  have hr1 := R1.lt
  go_wp2_with (refine wpList_load_at rfl 43 _ rfl bc 0 rfl (cc 130 id h) _ (Cel.of_blk X1) Try.underlying43 rfl (szC _ _ _) ?_)
  refine (requested_all h id m hi hm0 (by omega) _ G1).mono ?_
  rintro e w2 ⟨rfl, hb2⟩
  have S2 := S1.below hb2 S1.lt
  have X2 := X1.below hb2 X1.lt
  have R2 := R1.below hb2 R1.lt
  have B2 := B1.below hb2 B1.lt
  have k2 := k1.below hb2 (by omega)
  have bel2 := bel1.trans (hb2.mono (by omega))
  have bw2 := bw1.trans (hb2.mono (by omega))
  have hr2 := R2.lt
  clear S1 X1 R1 B1 G1 k1 bel1 bw1 hb2
  have s0 : w2.cell? ⟨bs, 0, none⟩ = some (.pointer (some ⟨g, 0, none⟩)) := S2.cell 0
  have x2 : w2.cell? ⟨bc, 2, none⟩ = some (.int .u32 id) := X2.cell 2
  have d1 : w2.cell? ⟨g, 1, none⟩ = some (.int .u32 id) := B2.cell 1
  have s0 : w2.drew.cell? ⟨bs, 0, none⟩ = some (.pointer (some ⟨g, 0, none⟩)) := S2.drew.cell 0
  have x2 : w2.drew.cell? ⟨bc, 2, none⟩ = some (.int .u32 id) := X2.drew.cell 2
  have d1 : w2.drew.cell? ⟨g, 1, none⟩ = some (.int .u32 id) := B2.drew.cell 1
  have c1 : decide ((16 : Int) - m < hv) = true := decide_eq_true (by omega)
  have c2 : (16 : Int) - m < hv := by omega
  go_wp2_with fail
  go_region
  go_upto_region 6 with (fail)
  clear s0 x2 d1
  have B3 := B2.drew
  have S3 := S2.drew
  have X3 := X2.drew
  have R3 := R2.drew
  have bel3 := bel2.drew
  clear B2 S2 X2 R2 bel2 k2
  go_wp2_with fail
  refine (answered_all b0 g bs bc h id 2 ny L gv hi (by omega) hny _ B3 S3 X3 (by omega) (by omega) hg).mono ?_
  rintro e w4 ⟨k, cap, hh, rfl, hk, hhh, K4, P4, B4, k4, bl4⟩
  have hgl := B4.lt
  have hhh2 : w2.heap.size ≤ hh := hhh
  have R4 : Blk w4 r 43 c0 := k4.blk R3 R3.lt (by omega)
  have bel4 := bel3.trans bl4
  have hkr : k ≠ r := by have := R3.lt; omega
  have hhr : hh ≠ r := by have := R3.lt; omega
  have Z := (Cel.of_blk R4).setCells_same (cd 130 id k cap).toList rfl
  have K5 := K4.setCells_far hkr 0 (cd 130 id k cap).toList
  have P5 := blk_setCells P4 hhr 0 (cd 130 id k cap).toList
  have B5 := blk_setCells B4 (show g ≠ r by omega) 0 (cd 130 id k cap).toList
  have bel5 := below_setCells bel4 (show b0 ≤ r by omega) 0 (cd 130 id k cap).toList
  go_wp2_with (refine wpList_store_at rfl 43 _ _ rfl r 0 (cd 130 id k cap) rfl rfl c0 (Cel.of_blk R4) (szD _ _ _ _) rfl (cd_one _ _ _ _) ?_)
  exact bodyPost_ret (v := .tuple #[.int .i64 0, .agg (cd 130 id k cap), .bool true]) ((results_tmp_cell_tmp_at rfl _ _ r 0 (cd 130 id k cap) _ rfl (Z.congr rfl) Try.underlying43 rfl (szD _ _ _ _)).trans rfl) rfl ⟨k, cap, hh, rfl, by omega, K5, P5, B5, bel5⟩
set_option maxHeartbeats 4000000 in
theorem asked_done (b0 g h id m hv : Nat) (ny : Int) (L : Nat → Value) (gv : Bool) (hi : id ≤ 4294967295) (hm0 : m ≠ 0) (hm : m ≤ 16) (hvm : hv + m ≤ 16) (hny : IntKind.u32.wrap ((id : Int) + 1) = ny) (w : World) (B : Blk w g 149 (sv id L gv)) (G : Blk w h 23 #[.int .i64 17, .string (mS id m)]) (hg : b0 ≤ g) :
    Calls Try.prog 30 #[.pointer (some ⟨g, 0, none⟩), .agg (cc 130 id h), .int .i64 hv] w fun e w' => ∃ k cap hh, e = .returned (.tuple #[.int .i64 m, .agg (cd 130 id k cap), .bool true]) ∧ w.heap.size ≤ hh ∧ Cel w' k 0 #[.int .i64 16, .string (rS id 1)] ∧ Blk w' hh 23 #[.int .i64 16, .string (rS id 1)] ∧ Blk w' g 149 (sv ny (fun j => (cc 130 id hh).getD j undef) true) ∧ Below b0 w w' := by
  have hgw := B.lt
  have hm1 : m ≠ 0 := hm0
  have S1 := ((Blk.new w 34 #[.pointer (some ⟨g, 0, none⟩)]).alloc (.cells (cc 130 id h) 43)).alloc (.cells c0 43)
  have X1 := (blk_new2 w (.cells #[.pointer (some ⟨g, 0, none⟩)] 34) 43 (cc 130 id h)).alloc (.cells c0 43)
  have R1 : Blk (((w.alloc (.cells #[.pointer (some ⟨g, 0, none⟩)] 34)).alloc (.cells (cc 130 id h) 43)).alloc (.cells c0 43)) (w.heap.size + 1 + 1) 43 c0 := by
    have := blk_new2 (w.alloc (.cells #[.pointer (some ⟨g, 0, none⟩)] 34)) (.cells (cc 130 id h) 43) 43 c0
    simpa using this
  have B1 := ((B.alloc (.cells #[.pointer (some ⟨g, 0, none⟩)] 34)).alloc (.cells (cc 130 id h) 43)).alloc (.cells c0 43)
  have G1 := ((G.alloc (.cells #[.pointer (some ⟨g, 0, none⟩)] 34)).alloc (.cells (cc 130 id h) 43)).alloc (.cells c0 43)
  have k1 := (((Keep.refl w.heap.size g w).alloc (Nat.le_refl _) (.cells #[.pointer (some ⟨g, 0, none⟩)] 34)).alloc (by simp) (.cells (cc 130 id h) 43)).alloc (by simp; omega) (.cells c0 43)
  have bel1 := (((Below.refl b0 w).alloc (by omega) (.cells #[.pointer (some ⟨g, 0, none⟩)] 34)).alloc (by simp; omega) (.cells (cc 130 id h) 43)).alloc (by simp; omega) (.cells c0 43)
  have bw1 := (((Below.refl w.heap.size w).alloc (Nat.le_refl _) (.cells #[.pointer (some ⟨g, 0, none⟩)] 34)).alloc (by simp) (.cells (cc 130 id h) 43)).alloc (by simp; omega) (.cells c0 43)
  go_enter Try.func30, Try.ntmps30
  go_upto_region 1 with (fail)
  rw [show ((w.alloc (.cells #[.pointer (some ⟨g, 0, none⟩)] 34)).alloc (.cells (cc 130 id h) 43)).alloc (.cells #[.int .i64 0, .int .i64 0, .int .u32 0, .int .i64 0, .int .i64 0, .int .u32 0, .string ⟨#[]⟩, .int .u32 0, .int .u32 0, .int .i64 0, .int .i64 0, .slice none 0 0, .slice none 0 0, .slice none 0 0, .slice none 0 0] 43) = ((w.alloc (.cells #[.pointer (some ⟨g, 0, none⟩)] 34)).alloc (.cells (cc 130 id h) 43)).alloc (.cells c0 43) from rfl]
  clear B G
  generalize ((w.alloc (.cells #[.pointer (some ⟨g, 0, none⟩)] 34)).alloc (.cells (cc 130 id h) 43)).alloc (.cells c0 43) = w1 at *
  generalize hrq : w.heap.size + 1 + 1 = r at *
  generalize hbcq : w.heap.size + 1 = bc at *
  generalize hbsq : w.heap.size = bs at *
  have hr1 := R1.lt
  go_wp2_with (refine wpList_load_at rfl 43 _ rfl bc 0 rfl (cc 130 id h) _ (Cel.of_blk X1) Try.underlying43 rfl (szC _ _ _) ?_)
  refine (requested_all h id m hi hm0 (by omega) _ G1).mono ?_
  rintro e w2 ⟨rfl, hb2⟩
  have S2 := S1.below hb2 S1.lt
  have X2 := X1.below hb2 X1.lt
  have R2 := R1.below hb2 R1.lt
  have B2 := B1.below hb2 B1.lt
  have k2 := k1.below hb2 (by omega)
  have bel2 := bel1.trans (hb2.mono (by omega))
  have bw2 := bw1.trans (hb2.mono (by omega))
  have hr2 := R2.lt
  clear S1 X1 R1 B1 G1 k1 bel1 bw1 hb2
  have s0 : w2.cell? ⟨bs, 0, none⟩ = some (.pointer (some ⟨g, 0, none⟩)) := S2.cell 0
  have x2 : w2.cell? ⟨bc, 2, none⟩ = some (.int .u32 id) := X2.cell 2
  have d1 : w2.cell? ⟨g, 1, none⟩ = some (.int .u32 id) := B2.cell 1
  have s0 : w2.drew.cell? ⟨bs, 0, none⟩ = some (.pointer (some ⟨g, 0, none⟩)) := S2.drew.cell 0
  have x2 : w2.drew.cell? ⟨bc, 2, none⟩ = some (.int .u32 id) := X2.drew.cell 2
  have d1 : w2.drew.cell? ⟨g, 1, none⟩ = some (.int .u32 id) := B2.drew.cell 1
  have c1 : decide ((16 : Int) - m < hv) = false := decide_eq_false (by omega)
  have c2 : ¬ (16 : Int) - m < hv := by omega
  go_wp2_with fail
  go_region
  go_upto_region 7 with (fail)
  have e0 : w2.drew.drew.cell? ⟨bs, 0, none⟩ = some (.pointer (some ⟨g, 0, none⟩)) := S2.drew.drew.cell 0
  have e2 : w2.drew.drew.cell? ⟨bc, 2, none⟩ = some (.int .u32 id) := X2.drew.drew.cell 2
  have e1 : w2.drew.drew.cell? ⟨g, 1, none⟩ = some (.int .u32 id) := B2.drew.drew.cell 1
  go_region
  go_upto_region 8 with (fail)
  clear s0 x2 d1 e0 e1 e2
  have B3 := B2.drew.drew
  have S3 := S2.drew.drew
  have X3 := X2.drew.drew
  have R3 := R2.drew.drew
  have bel3 := bel2.drew.drew
  clear B2 S2 X2 R2 bel2 k2
  go_wp2_with fail
  refine (answered_all b0 g bs bc h id 1 ny L gv hi (by omega) hny _ B3 S3 X3 (by omega) (by omega) hg).mono ?_
  rintro e w4 ⟨k, cap, hh, rfl, hk, hhh, K4, P4, B4, k4, bl4⟩
  have hgl := B4.lt
  have hhh2 : w2.heap.size ≤ hh := hhh
  have R4 : Blk w4 r 43 c0 := k4.blk R3 R3.lt (by omega)
  have bel4 := bel3.trans bl4
  have hkr : k ≠ r := by have := R3.lt; omega
  have hhr : hh ≠ r := by have := R3.lt; omega
  have Z := (Cel.of_blk R4).setCells_same (cd 130 id k cap).toList rfl
  have K5 := K4.setCells_far hkr 0 (cd 130 id k cap).toList
  have P5 := blk_setCells P4 hhr 0 (cd 130 id k cap).toList
  have B5 := blk_setCells B4 (show g ≠ r by omega) 0 (cd 130 id k cap).toList
  have bel5 := below_setCells bel4 (show b0 ≤ r by omega) 0 (cd 130 id k cap).toList
  go_wp2_with (refine wpList_store_at rfl 43 _ _ rfl r 0 (cd 130 id k cap) rfl rfl c0 (Cel.of_blk R4) (szD _ _ _ _) rfl (cd_one _ _ _ _) ?_)
  exact bodyPost_ret (v := .tuple #[.int .i64 m, .agg (cd 130 id k cap), .bool true]) ((results_tmp_cell_tmp_at rfl _ _ r 0 (cd 130 id k cap) _ rfl (Z.congr rfl) Try.underlying43 rfl (szD _ _ _ _)).trans rfl) rfl ⟨k, cap, hh, rfl, by omega, K5, P5, B5, bel5⟩
set_option maxHeartbeats 4000000 in
theorem asked_again (b0 g h id m hv : Nat) (nx hh what : Nat) (hi : id ≤ 4294967295) (hm0 : m ≠ 0) (hm : m ≤ 16) (hh16 : hv ≤ 16) (hne : id ≠ nx) (hpr : IntKind.u32.wrap ((nx : Int) - 1) = id) (w : World) (B : Blk w g 149 (sv nx (fun j => (cc 130 id hh).getD j undef) true)) (P : Blk w hh 23 #[.int .i64 16, .string (rS id what)]) (G : Blk w h 23 #[.int .i64 17, .string (mS id m)]) (hg : b0 ≤ g) :
    Calls Try.prog 30 #[.pointer (some ⟨g, 0, none⟩), .agg (cc 130 id h), .int .i64 hv] w fun e w' => ∃ k cap, e = .returned (.tuple #[.int .i64 0, .agg (cd 130 id k cap), .bool true]) ∧ Cel w' k 0 #[.int .i64 16, .string (rS id what)] ∧ Below w.heap.size w w' := by
  have hgw := B.lt
  have hm1 : m ≠ 0 := hm0
  have S1 := ((Blk.new w 34 #[.pointer (some ⟨g, 0, none⟩)]).alloc (.cells (cc 130 id h) 43)).alloc (.cells c0 43)
  have X1 := (blk_new2 w (.cells #[.pointer (some ⟨g, 0, none⟩)] 34) 43 (cc 130 id h)).alloc (.cells c0 43)
  have R1 : Blk (((w.alloc (.cells #[.pointer (some ⟨g, 0, none⟩)] 34)).alloc (.cells (cc 130 id h) 43)).alloc (.cells c0 43)) (w.heap.size + 1 + 1) 43 c0 := by
    have := blk_new2 (w.alloc (.cells #[.pointer (some ⟨g, 0, none⟩)] 34)) (.cells (cc 130 id h) 43) 43 c0
    simpa using this
  have B1 := ((B.alloc (.cells #[.pointer (some ⟨g, 0, none⟩)] 34)).alloc (.cells (cc 130 id h) 43)).alloc (.cells c0 43)
  have G1 := ((G.alloc (.cells #[.pointer (some ⟨g, 0, none⟩)] 34)).alloc (.cells (cc 130 id h) 43)).alloc (.cells c0 43)
  have k1 := (((Keep.refl w.heap.size g w).alloc (Nat.le_refl _) (.cells #[.pointer (some ⟨g, 0, none⟩)] 34)).alloc (by simp) (.cells (cc 130 id h) 43)).alloc (by simp; omega) (.cells c0 43)
  have bel1 := (((Below.refl b0 w).alloc (by omega) (.cells #[.pointer (some ⟨g, 0, none⟩)] 34)).alloc (by simp; omega) (.cells (cc 130 id h) 43)).alloc (by simp; omega) (.cells c0 43)
  have bw1 := (((Below.refl w.heap.size w).alloc (Nat.le_refl _) (.cells #[.pointer (some ⟨g, 0, none⟩)] 34)).alloc (by simp) (.cells (cc 130 id h) 43)).alloc (by simp; omega) (.cells c0 43)
  go_enter Try.func30, Try.ntmps30
  go_upto_region 1 with (fail)
  rw [show ((w.alloc (.cells #[.pointer (some ⟨g, 0, none⟩)] 34)).alloc (.cells (cc 130 id h) 43)).alloc (.cells #[.int .i64 0, .int .i64 0, .int .u32 0, .int .i64 0, .int .i64 0, .int .u32 0, .string ⟨#[]⟩, .int .u32 0, .int .u32 0, .int .i64 0, .int .i64 0, .slice none 0 0, .slice none 0 0, .slice none 0 0, .slice none 0 0] 43) = ((w.alloc (.cells #[.pointer (some ⟨g, 0, none⟩)] 34)).alloc (.cells (cc 130 id h) 43)).alloc (.cells c0 43) from rfl]
  clear B G
  generalize ((w.alloc (.cells #[.pointer (some ⟨g, 0, none⟩)] 34)).alloc (.cells (cc 130 id h) 43)).alloc (.cells c0 43) = w1 at *
  generalize hrq : w.heap.size + 1 + 1 = r at *
  generalize hbcq : w.heap.size + 1 = bc at *
  generalize hbsq : w.heap.size = bs at *
  have hr1 := R1.lt
  go_wp2_with (refine wpList_load_at rfl 43 _ rfl bc 0 rfl (cc 130 id h) _ (Cel.of_blk X1) Try.underlying43 rfl (szC _ _ _) ?_)
  refine (requested_all h id m hi hm0 (by omega) _ G1).mono ?_
  rintro e w2 ⟨rfl, hb2⟩
  have S2 := S1.below hb2 S1.lt
  have X2 := X1.below hb2 X1.lt
  have R2 := R1.below hb2 R1.lt
  have B2 := B1.below hb2 B1.lt
  have k2 := k1.below hb2 (by omega)
  have bel2 := bel1.trans (hb2.mono (by omega))
  have bw2 := bw1.trans (hb2.mono (by omega))
  have hr2 := R2.lt
  clear S1 X1 R1 B1 G1 k1 bel1 bw1 hb2
  have s0 : w2.cell? ⟨bs, 0, none⟩ = some (.pointer (some ⟨g, 0, none⟩)) := S2.cell 0
  have x2 : w2.cell? ⟨bc, 2, none⟩ = some (.int .u32 id) := X2.cell 2
  have d1 : w2.cell? ⟨g, 1, none⟩ = some (.int .u32 nx) := B2.cell 1
  have s0 : w2.drew.cell? ⟨bs, 0, none⟩ = some (.pointer (some ⟨g, 0, none⟩)) := S2.drew.cell 0
  have x2 : w2.drew.cell? ⟨bc, 2, none⟩ = some (.int .u32 id) := X2.drew.cell 2
  have d1 : w2.drew.cell? ⟨g, 1, none⟩ = some (.int .u32 nx) := B2.drew.cell 1
  have c1 : ((id : Int) == (nx : Int)) = false := by simp; omega
  have hP2 : Blk w2 hh 23 #[.int .i64 16, .string (rS id what)] := P.below bw2 (by rw [← hbsq]; exact P.lt)
  have d20 : w2.cell? ⟨g, 20, none⟩ = some (.bool true) := B2.cell 20
  go_wp2_with fail
  go_region
  go_upto_region 7 with (fail)
  have e0 : w2.drew.drew.cell? ⟨bs, 0, none⟩ = some (.pointer (some ⟨g, 0, none⟩)) := S2.drew.drew.cell 0
  have e2 : w2.drew.drew.cell? ⟨bc, 2, none⟩ = some (.int .u32 id) := X2.drew.drew.cell 2
  have e1 : w2.drew.drew.cell? ⟨g, 1, none⟩ = some (.int .u32 nx) := B2.drew.drew.cell 1
  have e20 : w2.drew.cell? ⟨g, 20, none⟩ = some (.bool true) := B2.drew.cell 20
  go_region
  go_upto_region 9 with (fail)
  have e20 : w2.drew.drew.cell? ⟨g, 20, none⟩ = some (.bool true) := B2.drew.cell 20
  go_region
  go_upto_region 10 with (fail)
  clear s0 x2 d1 e0 e1 e2 e20 d20
  have B3 := B2.drew.drew.drew
  have S3 := S2.drew.drew.drew
  have R3 := R2.drew.drew.drew
  have P3 := hP2.drew.drew.drew
  have bw3 := bw2.drew.drew.drew
  clear B2 S2 X2 R2 bel2 k2 hP2 bw2
  generalize w2.drew.drew.drew = w3 at *
  have s0 : w3.cell? ⟨bs, 0, none⟩ = some (.pointer (some ⟨g, 0, none⟩)) := S3.cell 0
  have D3 : Cel w3 g 5 (cc 130 id hh) := ((Cel.of_blk B3).sub 5 20).congr (by kernel_rfl)
  go_wp2_with (refine wpList_load_at rfl 43 _ rfl g 5 rfl (cc 130 id hh) _ D3 Try.underlying43 rfl (szC _ _ _) ?_)
  refine (clone_one 130 id hh 16 (rS id what) _ P3).mono ?_
  rintro e w9 ⟨kk, cap, rfl, hkk, hp1, hp2, K9, hb9⟩
  have R9 := R3.below hb9 R3.lt
  have bel9 := bw3.trans (hb9.mono (by have := bw3.size; omega))
  have hkr : kk ≠ r := by have := R3.lt; omega
  have Z := (Cel.of_blk R9).setCells_same (cd 130 id kk cap).toList rfl
  have K10 := K9.setCells_far hkr 0 (cd 130 id kk cap).toList
  have bel10 := below_setCells bel9 (show bs ≤ r by omega) 0 (cd 130 id kk cap).toList
  go_wp2_with (refine wpList_store_at rfl 43 _ _ rfl r 0 (cd 130 id kk cap) rfl rfl c0 (Cel.of_blk R9) (szD _ _ _ _) rfl (cd_one _ _ _ _) ?_)
  exact bodyPost_ret (v := .tuple #[.int .i64 0, .agg (cd 130 id kk cap), .bool true]) ((results_tmp_cell_tmp_at rfl _ _ r 0 (cd 130 id kk cap) _ rfl (Z.congr rfl) Try.underlying43 rfl (szD _ _ _ _)).trans rfl) rfl ⟨kk, cap, rfl, K10, by first | exact bel10 | (rw [hbsq]; exact bel10)⟩
set_option maxHeartbeats 4000000 in
theorem asked_no (b0 g h id m hv : Nat) (nx pr : Nat) (L : Nat → Value) (gv : Bool) (hi : id ≤ 4294967295) (hm0 : m ≠ 0) (hm : m ≤ 16) (hh16 : hv ≤ 16) (hne : id ≠ nx) (hpr : IntKind.u32.wrap ((nx : Int) - 1) = pr) (hor : gv = false ∨ id ≠ pr) (w : World) (B : Blk w g 149 (sv nx L gv)) (G : Blk w h 23 #[.int .i64 17, .string (mS id m)]) (hg : b0 ≤ g) :
    Calls Try.prog 30 #[.pointer (some ⟨g, 0, none⟩), .agg (cc 130 id h), .int .i64 hv] w fun e w' => e = .returned (.tuple #[.int .i64 0, .agg c0, .bool false]) ∧ Below w.heap.size w w' := by
  have hgw := B.lt
  have hm1 : m ≠ 0 := hm0
  have S1 := ((Blk.new w 34 #[.pointer (some ⟨g, 0, none⟩)]).alloc (.cells (cc 130 id h) 43)).alloc (.cells c0 43)
  have X1 := (blk_new2 w (.cells #[.pointer (some ⟨g, 0, none⟩)] 34) 43 (cc 130 id h)).alloc (.cells c0 43)
  have R1 : Blk (((w.alloc (.cells #[.pointer (some ⟨g, 0, none⟩)] 34)).alloc (.cells (cc 130 id h) 43)).alloc (.cells c0 43)) (w.heap.size + 1 + 1) 43 c0 := by
    have := blk_new2 (w.alloc (.cells #[.pointer (some ⟨g, 0, none⟩)] 34)) (.cells (cc 130 id h) 43) 43 c0
    simpa using this
  have B1 := ((B.alloc (.cells #[.pointer (some ⟨g, 0, none⟩)] 34)).alloc (.cells (cc 130 id h) 43)).alloc (.cells c0 43)
  have G1 := ((G.alloc (.cells #[.pointer (some ⟨g, 0, none⟩)] 34)).alloc (.cells (cc 130 id h) 43)).alloc (.cells c0 43)
  have k1 := (((Keep.refl w.heap.size g w).alloc (Nat.le_refl _) (.cells #[.pointer (some ⟨g, 0, none⟩)] 34)).alloc (by simp) (.cells (cc 130 id h) 43)).alloc (by simp; omega) (.cells c0 43)
  have bel1 := (((Below.refl b0 w).alloc (by omega) (.cells #[.pointer (some ⟨g, 0, none⟩)] 34)).alloc (by simp; omega) (.cells (cc 130 id h) 43)).alloc (by simp; omega) (.cells c0 43)
  have bw1 := (((Below.refl w.heap.size w).alloc (Nat.le_refl _) (.cells #[.pointer (some ⟨g, 0, none⟩)] 34)).alloc (by simp) (.cells (cc 130 id h) 43)).alloc (by simp; omega) (.cells c0 43)
  go_enter Try.func30, Try.ntmps30
  go_upto_region 1 with (fail)
  rw [show ((w.alloc (.cells #[.pointer (some ⟨g, 0, none⟩)] 34)).alloc (.cells (cc 130 id h) 43)).alloc (.cells #[.int .i64 0, .int .i64 0, .int .u32 0, .int .i64 0, .int .i64 0, .int .u32 0, .string ⟨#[]⟩, .int .u32 0, .int .u32 0, .int .i64 0, .int .i64 0, .slice none 0 0, .slice none 0 0, .slice none 0 0, .slice none 0 0] 43) = ((w.alloc (.cells #[.pointer (some ⟨g, 0, none⟩)] 34)).alloc (.cells (cc 130 id h) 43)).alloc (.cells c0 43) from rfl]
  clear B G
  generalize ((w.alloc (.cells #[.pointer (some ⟨g, 0, none⟩)] 34)).alloc (.cells (cc 130 id h) 43)).alloc (.cells c0 43) = w1 at *
  generalize hrq : w.heap.size + 1 + 1 = r at *
  generalize hbcq : w.heap.size + 1 = bc at *
  generalize hbsq : w.heap.size = bs at *
  have hr1 := R1.lt
  go_wp2_with (refine wpList_load_at rfl 43 _ rfl bc 0 rfl (cc 130 id h) _ (Cel.of_blk X1) Try.underlying43 rfl (szC _ _ _) ?_)
  refine (requested_all h id m hi hm0 (by omega) _ G1).mono ?_
  rintro e w2 ⟨rfl, hb2⟩
  have S2 := S1.below hb2 S1.lt
  have X2 := X1.below hb2 X1.lt
  have R2 := R1.below hb2 R1.lt
  have B2 := B1.below hb2 B1.lt
  have k2 := k1.below hb2 (by omega)
  have bel2 := bel1.trans (hb2.mono (by omega))
  have bw2 := bw1.trans (hb2.mono (by omega))
  have hr2 := R2.lt
  clear S1 X1 R1 B1 G1 k1 bel1 bw1 hb2
  have s0 : w2.cell? ⟨bs, 0, none⟩ = some (.pointer (some ⟨g, 0, none⟩)) := S2.cell 0
  have x2 : w2.cell? ⟨bc, 2, none⟩ = some (.int .u32 id) := X2.cell 2
  have d1 : w2.cell? ⟨g, 1, none⟩ = some (.int .u32 nx) := B2.cell 1
  have s0 : w2.drew.cell? ⟨bs, 0, none⟩ = some (.pointer (some ⟨g, 0, none⟩)) := S2.drew.cell 0
  have x2 : w2.drew.cell? ⟨bc, 2, none⟩ = some (.int .u32 id) := X2.drew.cell 2
  have d1 : w2.drew.cell? ⟨g, 1, none⟩ = some (.int .u32 nx) := B2.drew.cell 1
  have c1 : ((id : Int) == (nx : Int)) = false := by simp; omega
  have d20 : w2.cell? ⟨g, 20, none⟩ = some (.bool gv) := B2.cell 20
  go_wp2_with fail
  go_region
  go_upto_region 7 with (fail)
  have e0 : w2.drew.drew.cell? ⟨bs, 0, none⟩ = some (.pointer (some ⟨g, 0, none⟩)) := S2.drew.drew.cell 0
  have e2 : w2.drew.drew.cell? ⟨bc, 2, none⟩ = some (.int .u32 id) := X2.drew.drew.cell 2
  have e1 : w2.drew.drew.cell? ⟨g, 1, none⟩ = some (.int .u32 nx) := B2.drew.drew.cell 1
  have e20 : w2.drew.cell? ⟨g, 20, none⟩ = some (.bool gv) := B2.drew.cell 20
  go_region
  go_upto_region 9 with (fail)
  have e20 : w2.drew.drew.cell? ⟨g, 20, none⟩ = some (.bool gv) := B2.drew.cell 20
  go_cut [52] (fun s52 wx => s52 = .bool false ∧ w2.drew.drew.drew = wx)
  case first =>
    rcases hor with rfl | hor
    · go_region
      go_wp2_with fail
      go_meet
      exact ⟨rfl, rfl⟩
    · cases gv
      · go_region
        go_wp2_with fail
        go_meet
        exact ⟨rfl, rfl⟩
      · have c2 : ((id : Int) == (pr : Int)) = false := by simp; omega
        go_region
        go_wp2_with fail
        go_meet
        exact ⟨rfl, rfl⟩
  case rest =>
  obtain ⟨rfl, hwc⟩ := hcut
  have R3 : Blk wc r 43 c0 := hwc ▸ R2.drew.drew.drew
  have bw3 : Below bs w wc := hwc ▸ bw2.drew.drew.drew
  clear s0 x2 d1 e0 e1 e2 e20 d20 B2 S2 X2 R2 bel2 k2 bw2 hwc
  have Z := (Cel.of_blk R3).setCells_same c0.toList rfl
  have bel10 := below_setCells bw3 (show bs ≤ r by omega) 0 c0.toList
  go_wp2_with (refine wpList_store_at rfl 43 _ _ rfl r 0 c0 rfl rfl c0 (Cel.of_blk R3) szZ rfl c0_one ?_)
  exact bodyPost_ret (v := .tuple #[.int .i64 0, .agg c0, .bool false]) ((results_tmp_cell_tmp_at rfl _ _ r 0 c0 _ rfl (Z.congr rfl) Try.underlying43 rfl szZ).trans rfl) rfl ⟨rfl, by first | exact bel10 | (rw [hbsq]; exact bel10)⟩
end Go.Proofs.Ytdocphkpeonldaa.rec_
