/- Layer 28: a chunk of one parameter is copied. -/
import Derived.Test.YtdocphkpeonldaaRecF
namespace Go.Proofs.Ytdocphkpeonldaa.rec_
open Go.Sort (grow)
open Go.ChangeShapes Go.WideShapes Go.ChangeAt Go.RowKit kit oct
set_option maxRecDepth 100000

set_option maxHeartbeats 2000000 in
theorem clone_one (i id : Int) (h : Nat) (t : Int) (s : ByteArray) (w : World) (G : Blk w h 23 #[.int .i64 t, .string s]) : Calls Try.prog 84 #[.agg (cc i id h)] w fun e w' => ∃ k cap, e = .returned (.agg (cd i id k cap)) ∧ w.heap.size ≤ k ∧ 1 ≤ cap ∧ cap ≤ maxLen ∧ Cel w' k 0 #[.int .i64 t, .string s] ∧ Below w.heap.size w w' := by
  have X1 := (Blk.new w 43 (cc i id h)).alloc (.cells c0 43)
  have R1 := blk_new2 w (.cells (cc i id h) 43) 43 c0
  have G1 := (G.alloc (.cells (cc i id h) 43)).alloc (.cells c0 43)
  have bel1 := ((Below.refl w.heap.size w).alloc (Nat.le_refl _) (.cells (cc i id h) 43)).alloc (by simp) (.cells c0 43)
  have hsz : ((w.alloc (.cells (cc i id h) 43)).alloc (.cells c0 43)).heap.size = w.heap.size + 2 := by simp
  go_enter Try.func84, Try.ntmps84
  go_upto_region 1 with (fail)
  rw [show (w.alloc (.cells (cc i id h) 43)).alloc (.cells #[.int .i64 0, .int .i64 0, .int .u32 0, .int .i64 0, .int .i64 0, .int .u32 0, .string ⟨#[]⟩, .int .u32 0, .int .u32 0, .int .i64 0, .int .i64 0, .slice none 0 0, .slice none 0 0, .slice none 0 0, .slice none 0 0] 43) = (w.alloc (.cells (cc i id h) 43)).alloc (.cells c0 43) from rfl]
  generalize (w.alloc (.cells (cc i id h) 43)).alloc (.cells c0 43) = w1 at *
  have c11 : w1.cell? ⟨w.heap.size, 11, none⟩ = some (.slice (some ⟨h, 0, none⟩) 1 1) := X1.cell 11
  go_wp2_with fail
  refine (clP_one h t s _ (Cel.of_blk G1)).mono ?_
  rintro e v1 ⟨k, cap, rfl, hk, hp1, hp2, K1, hb1⟩
  have X1 := X1.below hb1 X1.lt
  have R1 := R1.below hb1 R1.lt
  have bel1 := bel1.trans (hb1.mono (by omega))
  have f11 : v1.frozen? ⟨w.heap.size, 11, none⟩ = false := X1.frozen 11
  have d11 : v1.cell? ⟨w.heap.size, 11, none⟩ = some (.slice (some ⟨h, 0, none⟩) 1 1) := X1.cell 11
  have hkx : k ≠ w.heap.size := by omega
  have hkr : k ≠ w.heap.size + 1 := by omega
  have X2 : Blk (v1.setCell ⟨w.heap.size, 11, none⟩ (.slice (some ⟨k, 0, none⟩) 1 cap)) w.heap.size 43 (cd i id k cap) := X1.set_ 11 (.slice (some ⟨k, 0, none⟩) 1 cap)
  have R2 := R1.far (p := ⟨w.heap.size, 11, none⟩) (show w.heap.size + 1 ≠ w.heap.size by omega) (.slice (some ⟨k, 0, none⟩) 1 cap)
  have K2 := K1.far (p := ⟨w.heap.size, 11, none⟩) hkx (.slice (some ⟨k, 0, none⟩) 1 cap)
  have bel2 := bel1.setCell (p := ⟨w.heap.size, 11, none⟩) (Nat.le_refl _) (.slice (some ⟨k, 0, none⟩) 1 cap)
  go_upto_region 2 with (fail)
  clear c11 f11 d11 X1 R1 bel1 hb1 K1 G1
  generalize v1.setCell ⟨w.heap.size, 11, none⟩ (.slice (some ⟨k, 0, none⟩) 1 cap) = w2 at *
  have c12 : w2.cell? ⟨w.heap.size, 12, none⟩ = some (.slice none 0 0) := X2.cell 12
  have f12 : w2.frozen? ⟨w.heap.size, 12, none⟩ = false := X2.frozen 12
  go_wp2_with fail
  refine (fli.cl12 _).mono ?_
  rintro e v2 ⟨rfl, hv⟩
  subst hv
  have X3 : Blk (v2.setCell ⟨w.heap.size, 12, none⟩ (.slice none 0 0)) w.heap.size 43 (cd i id k cap) := X2.set_ 12 (.slice none 0 0)
  have R3 := R2.far (p := ⟨w.heap.size, 12, none⟩) (show w.heap.size + 1 ≠ w.heap.size by omega) (.slice none 0 0)
  have K3 := K2.far (p := ⟨w.heap.size, 12, none⟩) hkx (.slice none 0 0)
  have bel3 := bel2.setCell (p := ⟨w.heap.size, 12, none⟩) (Nat.le_refl _) (.slice none 0 0)
  go_upto_region 3 with (fail)
  clear c12 f12 X2 R2 bel2 K2
  generalize v2.setCell ⟨w.heap.size, 12, none⟩ (.slice none 0 0) = w3 at *
  have c13 : w3.cell? ⟨w.heap.size, 13, none⟩ = some (.slice none 0 0) := X3.cell 13
  have f13 : w3.frozen? ⟨w.heap.size, 13, none⟩ = false := X3.frozen 13
  go_wp2_with fail
  refine (fli.cl13 _).mono ?_
  rintro e v3 ⟨rfl, hv⟩
  subst hv
  have X4 : Blk (v3.setCell ⟨w.heap.size, 13, none⟩ (.slice none 0 0)) w.heap.size 43 (cd i id k cap) := X3.set_ 13 (.slice none 0 0)
  have R4 := R3.far (p := ⟨w.heap.size, 13, none⟩) (show w.heap.size + 1 ≠ w.heap.size by omega) (.slice none 0 0)
  have K4 := K3.far (p := ⟨w.heap.size, 13, none⟩) hkx (.slice none 0 0)
  have bel4 := bel3.setCell (p := ⟨w.heap.size, 13, none⟩) (Nat.le_refl _) (.slice none 0 0)
  go_upto_region 4 with (fail)
  clear c13 f13 X3 R3 bel3 K3
  generalize v3.setCell ⟨w.heap.size, 13, none⟩ (.slice none 0 0) = w4 at *
  have c14 : w4.cell? ⟨w.heap.size, 14, none⟩ = some (.slice none 0 0) := X4.cell 14
  have f14 : w4.frozen? ⟨w.heap.size, 14, none⟩ = false := X4.frozen 14
  go_wp2_with fail
  refine (fli.cl14 _).mono ?_
  rintro e v4 ⟨rfl, hv⟩
  subst hv
  have X5 : Blk (v4.setCell ⟨w.heap.size, 14, none⟩ (.slice none 0 0)) w.heap.size 43 (cd i id k cap) := X4.set_ 14 (.slice none 0 0)
  have R5 := R4.far (p := ⟨w.heap.size, 14, none⟩) (show w.heap.size + 1 ≠ w.heap.size by omega) (.slice none 0 0)
  have K5 := K4.far (p := ⟨w.heap.size, 14, none⟩) hkx (.slice none 0 0)
  have bel5 := bel4.setCell (p := ⟨w.heap.size, 14, none⟩) (Nat.le_refl _) (.slice none 0 0)
  go_upto_region 5 with (fail)
  clear c14 f14 X4 R4 bel4 K4
  generalize v4.setCell ⟨w.heap.size, 14, none⟩ (.slice none 0 0) = w5 at *
  have C6 := (Cel.of_blk R5).setCells_same (cd i id k cap).toList rfl
  have K6 := K5.setCells_far hkr 0 (cd i id k cap).toList
  have bel6 := below_setCells bel5 (show w.heap.size ≤ w.heap.size + 1 by omega) 0 (cd i id k cap).toList
  go_wp2_with (first | (refine wpList_load_at rfl 43 _ rfl w.heap.size 0 rfl (cd i id k cap) _ (Cel.of_blk X5) Try.underlying43 rfl (szD _ _ _ _) ?_) | (refine wpList_store_at rfl 43 _ _ rfl (w.heap.size + 1) 0 (cd i id k cap) rfl rfl c0 (Cel.of_blk R5) (szD _ _ _ _) rfl (cd_one _ _ _ _) ?_))
  exact bodyPost_ret (v := .agg (cd i id k cap)) (results_cell_at rfl _ _ (w.heap.size + 1) 0 (cd i id k cap) _ rfl (C6.congr rfl) Try.underlying43 rfl (szD _ _ _ _)) rfl ⟨k, cap, rfl, by omega, hp1, hp2, K6, bel6⟩
end Go.Proofs.Ytdocphkpeonldaa.rec_
