/- Layer 28: an answer is made (the closure of Asked). -/
import Derived.Test.YtdocphkpeonldaaRecG
import Derived.Test.YtdocphkpeonldaaRecD
import Derived.Deep.RegionHeld3
namespace Go.Proofs.Ytdocphkpeonldaa.rec_
open Go.Sort (grow)
open Go.ChangeShapes Go.WideShapes Go.ChangeAt Go.RowKit kit oct
set_option maxRecDepth 100000

set_option maxHeartbeats 4000000 in
theorem answered_one (b0 g bs bc h : Nat) (w : World) (B : Blk w g 149 (st 9 5 0 0 0)) (S : Blk w bs 34 #[.pointer (some ⟨g, 0, none⟩)]) (X : Blk w bc 43 (cc 130 5 h)) (hbs : bs ≠ g) (hbc : bc ≠ g) (hg : b0 ≤ g) :
    Calls Try.prog 83 #[.int .i64 1, .pointer (some ⟨bs, 0, none⟩), .pointer (some ⟨bc, 0, none⟩)] w fun e w' => ∃ k cap, e = .returned (.agg (cd 130 5 k cap)) ∧ w.heap.size ≤ k ∧ 1 ≤ cap ∧ cap ≤ maxLen ∧ Cel w' k 0 #[.int .i64 16, .string (rS 5 1)] ∧ Keep w.heap.size g w w' ∧ Below b0 w w' := by
  have hgw := B.lt
  have hsw := S.lt
  have hxw := X.lt
  have B1 := B.alloc (.cells c0 43)
  have S1 := S.alloc (.cells c0 43)
  have X1 := X.alloc (.cells c0 43)
  have R1 := Blk.new w 43 c0
  have k1 := (Keep.refl w.heap.size g w).alloc (Nat.le_refl _) (.cells c0 43)
  have bel1 := (Below.refl b0 w).alloc (by omega) (.cells c0 43)
  go_enter Try.func83, Try.ntmps83
  go_upto_region 1 with (fail)
  rw [show w.alloc (.cells #[.int .i64 0, .int .i64 0, .int .u32 0, .int .i64 0, .int .i64 0, .int .u32 0, .string ⟨#[]⟩, .int .u32 0, .int .u32 0, .int .i64 0, .int .i64 0, .slice none 0 0, .slice none 0 0, .slice none 0 0, .slice none 0 0] 43) = w.alloc (.cells c0 43) from rfl]
  generalize w.alloc (.cells c0 43) = w1 at *
  generalize hr : w.heap.size = r at *
  have s0 : w1.cell? ⟨bs, 0, none⟩ = some (.pointer (some ⟨g, 0, none⟩)) := S1.cell 0
  have d1 : w1.cell? ⟨g, 1, none⟩ = some (.int .u32 5) := B1.cell 1
  have d1f : w1.frozen? ⟨g, 1, none⟩ = false := B1.frozen 1
  go_upto_region 2 with (fail)
  have B2 : Blk (w1.setCell ⟨g, 1, none⟩ (.int .u32 6)) g 149 (st 9 6 0 0 0) := B1.set_ 1 (.int .u32 6)
  have S2 := S1.far (p := ⟨g, 1, none⟩) hbs (.int .u32 6)
  have X2 := X1.far (p := ⟨g, 1, none⟩) hbc (.int .u32 6)
  have R2 := R1.far (p := ⟨g, 1, none⟩) (show r ≠ g by omega) (.int .u32 6)
  have k2 := k1.setG 1 (.int .u32 6)
  have bel2 := bel1.setCell (p := ⟨g, 1, none⟩) hg (.int .u32 6)
  clear B S X B1 S1 X1 R1 k1 bel1 s0 d1 d1f
  generalize w1.setCell ⟨g, 1, none⟩ (.int .u32 6) = w2 at *
  have hrl := R2.lt
  have hgl := B2.lt
  have hsl := S2.lt
  have hxl := X2.lt
  have s0 : w2.cell? ⟨bs, 0, none⟩ = some (.pointer (some ⟨g, 0, none⟩)) := S2.cell 0
  have x2 : w2.cell? ⟨bc, 2, none⟩ = some (.int .u32 5) := X2.cell 2
  have hgs : ¬ g = bs := fun q => hbs q.symm
  have hgc : ¬ g = bc := fun q => hbc q.symm
  have hM : ∀ w, Calls Try.prog 18 #[.int .u32 5, .int .i64 1] w fun e w' => e = .returned (.agg #[.int .i64 16, .string (rS 5 1)]) ∧ Below w.heap.size w w' := fun w => result_any 5 1 (by omega) (by omega) w
  have hC := fun w => chunkOf_any 5 16 (rS 5 1) w
  go_region_held3 (fun w' => w'.cell? ⟨bs, 0, none⟩ = some (.pointer (some ⟨g, 0, none⟩)) ∧ w'.cell? ⟨bc, 2, none⟩ = some (.int .u32 5))
    (first | with_reducible exact ⟨s6, x6⟩ | with_reducible exact ⟨s7, x7⟩ | (refine ⟨?_, ?_⟩ <;> (first | (with_reducible assumption) | (simp only [World.cell?_setCell_far, ne_eq, hgs, hgc, not_false_eq_true]; with_reducible assumption))) | go_keep)
    ((first | (refine step_call (by rfl) 18 Try.f18 _ _ (by rfl) Try.func18 (by kernel_rfl) (by kernel_rfl) #[.int .u32 5, .int .i64 1] (by simp [Act.eval, Act.put]) (hM _) ?_; intro w6 hb6; have B6 := B2.drew.below hb6 hgl; have R6 := R2.drew.below hb6 hrl; have S6 := S2.drew.below hb6 hsl; have X6 := X2.drew.below hb6 hxl; have k6 := k2.drew.below hb6 (show r ≤ w2.heap.size by omega); have bel6 := bel2.drew.trans (hb6.mono (show b0 ≤ w2.heap.size by omega)); have s6 : w6.cell? ⟨bs, 0, none⟩ = some (.pointer (some ⟨g, 0, none⟩)) := S6.cell 0; have x6 : w6.cell? ⟨bc, 2, none⟩ = some (.int .u32 5) := X6.cell 2; have hgl6 := B6.lt; have hrl6 := R6.lt; have hsl6 := S6.lt; have hxl6 := X6.lt)
            | (refine step_call2 (by rfl) 81 Try.f81 _ _ (by rfl) Try.func81 (by kernel_rfl) (by kernel_rfl) #[.int .u32 5, .agg #[.int .i64 16, .string (rS 5 1)]] (by simp [Act.eval, Act.put]) (hC _) ?_; rintro e w7 ⟨rfl, P7, hb7⟩; refine ⟨.agg #[.int .i64 130, .int .i64 0, .int .u32 5, .int .i64 0, .int .i64 0, .int .u32 0, .string ⟨#[]⟩, .int .u32 0, .int .u32 0, .int .i64 0, .int .i64 0, .slice (some ⟨w6.heap.size + 2, 0, none⟩) 1 1, .slice none 0 0, .slice none 0 0, .slice none 0 0], rfl, ?_⟩; have B7 := B6.below hb7 hgl6; have R7 := R6.below hb7 hrl6; have S7 := S6.below hb7 hsl6; have X7 := X6.below hb7 hxl6; have k7 := k6.below hb7 (show r ≤ w6.heap.size by omega); have bel7 := bel6.trans (hb7.mono (show b0 ≤ w6.heap.size by omega)); have s7 : w7.cell? ⟨bs, 0, none⟩ = some (.pointer (some ⟨g, 0, none⟩)) := S7.cell 0; have x7 : w7.cell? ⟨bc, 2, none⟩ = some (.int .u32 5) := X7.cell 2; have T7 : Blk w7 g 149 #[.int .u32 9, .int .u32 6, .int .i64 0, .int .i64 0, .int .i64 0, .int .i64 0, .int .i64 0, .int .u32 0, .int .i64 0, .int .i64 0, .int .u32 0, .string ⟨#[]⟩, .int .u32 0, .int .u32 0, .int .i64 0, .int .i64 0, .slice none 0 0, .slice none 0 0, .slice none 0 0, .slice none 0 0, .bool false] := B7; have C7 := fun i => T7.cell i; have F7 := fun i => T7.frozen i)))
  rw [show (((((((((((((((w7.setCell ⟨g, 5, none⟩ (.int .i64 130)).setCell ⟨g, 6, none⟩ (.int .i64 0)).setCell ⟨g, 7, none⟩ (.int .u32 5)).setCell ⟨g, 8, none⟩ (.int .i64 0)).setCell ⟨g, 9, none⟩ (.int .i64 0)).setCell ⟨g, 10, none⟩ (.int .u32 0)).setCell ⟨g, 11, none⟩ (.string ⟨#[]⟩)).setCell ⟨g, 12, none⟩ (.int .u32 0)).setCell ⟨g, 13, none⟩ (.int .u32 0)).setCell ⟨g, 14, none⟩ (.int .i64 0)).setCell ⟨g, 15, none⟩ (.int .i64 0)).setCell ⟨g, 16, none⟩ (.slice (some ⟨w6.heap.size + 2, 0, none⟩) 1 1)).setCell ⟨g, 17, none⟩ (.slice none 0 0)).setCell ⟨g, 18, none⟩ (.slice none 0 0)).setCell ⟨g, 19, none⟩ (.slice none 0 0)).setCell ⟨g, 20, none⟩ (.bool true) = (w7.setCells g 5 (cc 130 5 (w6.heap.size + 2)).toList).setCell ⟨g, 20, none⟩ (.bool true) from rfl]
  have D7 : Cel w7 g 5 ((st 9 6 0 0 0).extract 5 20) := (Cel.of_blk B7).sub 5 20
  have D8 : Cel ((w7.setCells g 5 (cc 130 5 (w6.heap.size + 2)).toList).setCell ⟨g, 20, none⟩ (.bool true)) g 5 (cc 130 5 (w6.heap.size + 2)) := ((D7.setCells_same (cc 130 5 (w6.heap.size + 2)).toList rfl).congr (ds := cc 130 5 (w6.heap.size + 2)) rfl).setCells_apart 20 [.bool true] (Or.inl (Nat.le_refl 20))
  have S8 := (blk_setCells S7 hbs 5 (cc 130 5 (w6.heap.size + 2)).toList).far (p := ⟨g, 20, none⟩) hbs (.bool true)
  have P8 := (blk_setCells P7 (show w6.heap.size + 2 ≠ g by omega) 5 (cc 130 5 (w6.heap.size + 2)).toList).far (p := ⟨g, 20, none⟩) (show w6.heap.size + 2 ≠ g by omega) (.bool true)
  have R8 := (blk_setCells R7 (show r ≠ g by omega) 5 (cc 130 5 (w6.heap.size + 2)).toList).far (p := ⟨g, 20, none⟩) (show r ≠ g by omega) (.bool true)
  have k8 := (k7.setGs 5 (cc 130 5 (w6.heap.size + 2)).toList).setG 20 (.bool true)
  have bel8 := (below_setCells bel7 hg 5 (cc 130 5 (w6.heap.size + 2)).toList).setCell (p := ⟨g, 20, none⟩) hg (.bool true)
  clear C7 F7 T7 B7 R7 S7 X7 k7 bel7 P7 D7 s7 x7 s6 x6 B6 R6 S6 X6 k6 bel6 B2 S2 X2 R2 k2 bel2 s0 x2 hM hC
  generalize (w7.setCells g 5 (cc 130 5 (w6.heap.size + 2)).toList).setCell ⟨g, 20, none⟩ (.bool true) = w8 at *
  have hm6 : r ≤ w6.heap.size + 2 := by omega
  generalize w6.heap.size + 2 = m at *
  have s8 : w8.cell? ⟨bs, 0, none⟩ = some (.pointer (some ⟨g, 0, none⟩)) := S8.cell 0
  go_wp2_with (refine wpList_load_at rfl 43 _ rfl g 5 rfl (cc 130 5 m) _ D8 Try.underlying43 rfl (szC _ _ _) ?_)
  refine (clone_one 130 5 m 16 (rS 5 1) _ P8).mono ?_
  rintro e w9 ⟨k, cap, rfl, hk, hp1, hp2, K9, hb9⟩
  have hrl8 := R8.lt
  have R9 := R8.below hb9 hrl8
  have k9 := k8.below hb9 (by omega)
  have bel9 := bel8.trans (hb9.mono (by omega))
  have hkr : k ≠ r := by omega
  have Z := (Cel.of_blk R9).setCells_same (cd 130 5 k cap).toList rfl
  have K10 := K9.setCells_far hkr 0 (cd 130 5 k cap).toList
  have k10 := k9.setR (Nat.le_refl r) 0 (cd 130 5 k cap).toList
  have bel10 := below_setCells bel9 (show b0 ≤ r by omega) 0 (cd 130 5 k cap).toList
  go_wp2_with (refine wpList_store_at rfl 43 _ _ rfl r 0 (cd 130 5 k cap) rfl rfl c0 (Cel.of_blk R9) (szD _ _ _ _) rfl (cd_one _ _ _ _) ?_)
  exact bodyPost_ret (v := .agg (cd 130 5 k cap)) (results_cell_at rfl _ _ r 0 (cd 130 5 k cap) _ rfl (Z.congr rfl) Try.underlying43 rfl (szD _ _ _ _)) rfl ⟨k, cap, rfl, by omega, hp1, hp2, K10, by rw [hr]; exact k10, bel10⟩
end Go.Proofs.Ytdocphkpeonldaa.rec_
