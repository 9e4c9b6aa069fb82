/- Layer 21: a chunk is sent again. -/
import Derived.Test.YthddacgdmngfhaaFfI
namespace Go.Proofs.Ythddacgdmngfhaa.fli
open Go.Sort (grow)
open Go.ChangeShapes Go.WideShapes Go.ChangeAt Go.RowKit kit
set_option maxRecDepth 100000

set_option maxHeartbeats 4000000 in
theorem again_f {b0 g n : Nat} {c : Int} {f : Nat → Sx} {v : Value} {w : World} (h : Fw b0 g c f n v w) (hb0 : b0 ≤ w.heap.size) (hn : n ≤ 100) (h0 : 0 < n) (hag : (f 0).ag = true) (hm : 0 ≤ (f 0).m ∧ (f 0).m ≤ 100) :
    Calls Try.prog 78 #[.pointer (some ⟨g, 0, none⟩), .int .i64 1, .int .i64 6] w fun e w' => e = .returned (.tuple #[.agg (ch 0 (f 0).t ⟨#[120]⟩), .bool true]) ∧ Fw b0 g c (upd f 0 (sg (f 0))) n v w' ∧ Below b0 w w' := by
  have hii : (0 : Int) < (n : Int) := by omega
  have R1 := Blk.new w 40 (ch 0 0 ⟨#[]⟩)
  have F1 := h.alloc (.cells (ch 0 0 ⟨#[]⟩) 40)
  have bel1 := (Below.refl b0 w).alloc hb0 (.cells (ch 0 0 ⟨#[]⟩) 40)
  obtain ⟨hh, off, cap, rfl, hc1, hc2, hhg, hbh, hhl, _⟩ := h.at_ h0
  have hbk : blkOf (.slice (some ⟨hh, off, none⟩) n cap) = some hh := blkOf_pos (by omega)
  have hgl := h.B.lt
  have hw : IntKind.i64.wrap ((f 0).m + 1) = (f 0).m + 1 := IntWalk.i64_in _ (by omega)
  clear h
  go_enter Try.func78, Try.ntmps78
  go_upto_region 1 with (fail)
  rw [show w.alloc (.cells #[.int .i64 0, .int .i64 0, .int .u32 0, .int .i64 0, .int .i64 0, .int .u32 0, .string ⟨#[]⟩, .int .u32 0, .int .u32 0, .int .i64 0, .int .i64 0, .slice none 0 0, .slice none 0 0, .slice none 0 0, .slice none 0 0] 40) = w.alloc (.cells (ch 0 0 ⟨#[]⟩) 40) from rfl]
  generalize w.alloc (.cells (ch 0 0 ⟨#[]⟩) 40) = w1 at *
  have hgr : g ≠ w.heap.size := by omega
  have hhr : hh ≠ w.heap.size := by omega
  generalize hrr : w.heap.size = r at *
  have hagc := again_of F1 (ix_yes F1 hn h0 hag)
  go_wp2_with fail
  refine hagc.mono ?_
  rintro e w2 ⟨rfl, hb2⟩
  have R2 := R1.below hb2 R1.lt
  have F2 := F1.below hb2 (Nat.le_refl _)
  have bel2 := bel1.trans (hb2.mono (by have := R1.lt; omega))
  clear R1 F1 bel1 hb2 hagc
  obtain ⟨_, _, _, hv, _, _, _, _, _, X⟩ := F2.at_ h0
  injection hv with hv1 hv2 hv3
  injection hv1 with hv4
  injection hv4 with hv5 hv6
  subst hv5 hv6
  rw [Nat.zero_mul, Nat.add_zero] at X
  clear hv2 hv3
  obtain ⟨x, hx⟩ : ∃ x, f 0 = x := ⟨_, rfl⟩
  rw [hx] at X hag hm hw
  have HX := Lib.hid hx
  have c1 : w2.cell? ⟨g, 1, none⟩ = some (.slice (some ⟨hh, off, none⟩) n cap) := F2.B.cell 1
  have x15 : w2.cell? ⟨hh, off + 15, none⟩ = some (.int .i64 x.p) := X.cell 15 rfl
  have x16 : w2.cell? ⟨hh, off + 16, none⟩ = some (.int .i64 x.a) := X.cell 16 rfl
  have x19 : w2.cell? ⟨hh, off + 19, none⟩ = some (.bool x.ag) := X.cell 19 rfl
  have f15 : w2.frozen? ⟨hh, off + 15, none⟩ = false := X.frozen 15 (by rw [sx_size]; decide)
  have f16 : w2.frozen? ⟨hh, off + 16, none⟩ = false := X.frozen 16 (by rw [sx_size]; decide)
  have f19 : w2.frozen? ⟨hh, off + 19, none⟩ = false := X.frozen 19 (by rw [sx_size]; decide)
  have F3 := F2.setF h0 hhg hbk (show 15 < 22 by omega) (.int .i64 1) { x with p := 1 } (by rw [hx]; rfl)
  have F4 := F3.setF h0 hhg hbk (show 16 < 22 by omega) (.int .i64 6) { x with p := 1, a := 6 } (by rw [upd_at]; rfl)
  rw [upd_upd] at F4
  have F5 := F4.setF h0 hhg hbk (show 19 < 22 by omega) (.bool false) { x with p := 1, a := 6, ag := false } (by rw [upd_at]; rfl)
  rw [upd_upd] at F5
  have R5 := ((R2.far (p := ⟨hh, off + 15, none⟩) (Ne.symm hhr) (.int .i64 1)).far (p := ⟨hh, off + 16, none⟩) (Ne.symm hhr) (.int .i64 6)).far (p := ⟨hh, off + 19, none⟩) (Ne.symm hhr) (.bool false)
  have bel5 := ((bel2.setCell (p := ⟨hh, off + 15, none⟩) hbh (.int .i64 1)).setCell (p := ⟨hh, off + 16, none⟩) hbh (.int .i64 6)).setCell (p := ⟨hh, off + 19, none⟩) hbh (.bool false)
  clear F2 F3 F4 R2 X bel2 hx
  go_upto_region 6 with (fail)
  clear c1 x15 x16 x19 f15 f16 f19
  obtain ⟨w5, hw5⟩ : ∃ w5, ((w2.setCell ⟨hh, off + 15, none⟩ (.int .i64 1)).setCell ⟨hh, off + 16, none⟩ (.int .i64 6)).setCell ⟨hh, off + 19, none⟩ (.bool false) = w5 := ⟨_, rfl⟩
  rw [hw5] at F5 R5 bel5
  try rw [hw5]
  clear hw5
  obtain ⟨_, _, _, hv, _, _, _, _, _, X⟩ := F5.at_ h0
  injection hv with hv1 hv2 hv3
  injection hv1 with hv4
  injection hv4 with hv5 hv6
  subst hv5 hv6
  rw [Nat.zero_mul, Nat.add_zero, upd_at] at X
  clear hv2 hv3
  have x17 : w5.cell? ⟨hh, off + 17, none⟩ = some (.int .i64 x.m) := X.cell 17 rfl
  have f17 : w5.frozen? ⟨hh, off + 17, none⟩ = false := X.frozen 17 (by rw [sx_size]; decide)
  have F6 := F5.setF h0 hhg hbk (show 17 < 22 by omega) (.int .i64 (x.m + 1)) (sg x) (by rw [upd_at]; rfl)
  rw [upd_upd] at F6
  have R6 := R5.far (p := ⟨hh, off + 17, none⟩) (Ne.symm hhr) (.int .i64 (x.m + 1))
  have bel6 := bel5.setCell (p := ⟨hh, off + 17, none⟩) hbh (.int .i64 (x.m + 1))
  clear F5 R5 bel5 X
  go_upto_region 7 with (fail)
  clear x17 f17 hw
  obtain ⟨w6, hw6⟩ : ∃ w6, w5.setCell ⟨hh, off + 17, none⟩ (.int .i64 (x.m + 1)) = w6 := ⟨_, rfl⟩
  rw [hw6] at F6 R6 bel6
  try rw [hw6]
  clear hw6
  obtain ⟨_, _, _, hv, _, _, _, _, _, X⟩ := F6.at_ h0
  injection hv with hv1 hv2 hv3
  injection hv1 with hv4
  injection hv4 with hv5 hv6
  subst hv5 hv6
  rw [Nat.zero_mul, Nat.add_zero, upd_at] at X
  clear hv2 hv3
  have XC : Cel w6 hh off (ch 0 x.t ⟨#[120]⟩) := cel_ch (x := sg x) X
  have szB := szC 0 x.t ⟨#[120]⟩
  clear X
  go_wp2_with (refine wpList_load_at rfl 40 _ rfl hh off rfl (ch 0 x.t ⟨#[120]⟩) _ XC Try.underlying40 rfl szB ?_)
  refine (clone_any 0 x.t ⟨#[120]⟩ _).mono ?_
  rintro e w7 ⟨rfl, hb7⟩
  have F7 := F6.below hb7 (Nat.le_refl _)
  have R7 := R6.below hb7 R6.lt
  have bel7 := bel6.trans (hb7.mono (by have := R6.lt; omega))
  clear F6 R6 bel6 hb7 XC
  have Z8 := (Cel.of_blk R7).setCells_same (ch 0 x.t ⟨#[120]⟩).toList rfl
  have F8 : Fw b0 g c (upd f 0 (sg x)) n (.slice (some ⟨hh, off, none⟩) n cap) (w7.setCells r 0 (ch 0 x.t ⟨#[120]⟩).toList) := ⟨blk_setCells F7.B hgr 0 _, F7.q.block (by rw [size_setCells (w := w7)]; exact Nat.le_refl _) (fun i hi => pat.heap_setCells' (fun (e : i = r) => hhr (Option.some.inj (hbk.symm.trans (by rw [← e]; exact hi)))) _ _ _), F7.hg, F7.hn⟩
  have bel8 := below_setCells bel7 (show b0 ≤ r by omega) 0 (ch 0 x.t ⟨#[120]⟩).toList
  have HE := Lib.hid (And.intro F8 bel8)
  clear F8 F7 bel8 bel7
  go_wp2_with (refine wpList_store_at rfl 40 _ _ rfl r 0 (ch 0 x.t ⟨#[120]⟩) rfl rfl (ch 0 0 ⟨#[]⟩) (Cel.of_blk R7) szB rfl (ch_one _ _ _) ?_)
  have Z9 : Cel (w7.setCells r 0 (ch 0 x.t ⟨#[120]⟩).toList) r 0 #[.int .i64 0, .int .i64 0, .int .u32 x.t, .int .i64 0, .int .i64 0, .int .u32 0, .string ⟨#[120]⟩, .int .u32 0, .int .u32 0, .int .i64 0, .int .i64 0, .slice none 0 0, .slice none 0 0, .slice none 0 0, .slice none 0 0] := Z8.congr rfl
  exact bodyPost_ret (v := .tuple #[.agg (ch 0 x.t ⟨#[120]⟩), .bool true]) (by rw [results_cell_tmp_at rfl _ _ r 0 #[.int .i64 0, .int .i64 0, .int .u32 x.t, .int .i64 0, .int .i64 0, .int .u32 0, .string ⟨#[120]⟩, .int .u32 0, .int .u32 0, .int .i64 0, .int .i64 0, .slice none 0 0, .slice none 0 0, .slice none 0 0, .slice none 0 0] _ rfl Z9 Try.underlying40 rfl szB]; rfl) rfl ⟨by rw [HX.out], by rw [HX.out]; exact HE.out.1, HE.out.2⟩
end Go.Proofs.Ythddacgdmngfhaa.fli
