/- Layer 21: one chunk more. -/
import Derived.Test.YthddacgdmngfhaaFfA
namespace Go.Proofs.Ythddacgdmngfhaa.fli
open Go.Sort (grow)
open Go.ChangeShapes Go.WideShapes Go.ChangeAt Go.RowKit kit
set_option maxRecDepth 100000

theorem zch : ch 0 0 ⟨#[]⟩ = #[.int .i64 0, .int .i64 0, .int .u32 0, .int .i64 0, .int .i64 0, .int .u32 0, .string ⟨#[]⟩, .int .u32 0, .int .u32 0, .int .i64 0, .int .i64 0, .slice none 0 0, .slice none 0 0, .slice none 0 0, .slice none 0 0] := rfl
theorem build_sent (t p a : Int) (W : World) : (Instr.build 231 #[(0, .agg (ch 0 t ⟨#[120]⟩)), (1, .int .i64 p), (2, .int .i64 a), (3, .int .i64 1)]).run Try.prog W = .ok (.agg (sx ⟨t, p, a, 1, 0, false, false, false⟩)) W := by kernel_rfl
theorem run_build4 {P : Program} {oi : Oper} {a : Act} {x0 x1 x2 x3 : Operand} {ty : TypeId} {s0 s1 s2 s3 u : Value} {v : World} (ho : oi.op = .build ty #[(0, x0), (1, x1), (2, x2), (3, x3)]) (h0 : a.eval x0 = s0) (h1 : a.eval x1 = s1) (h2 : a.eval x2 = s2) (h3 : a.eval x3 = s3) (hr : (Instr.build ty #[(0, s0), (1, s1), (2, s2), (3, s3)]).run P v = .ok u v) : (execOp a.eval oi).run P v = .ok (.value u) v := by
  unfold execOp
  simp [ho, h0, h1, h2, h3, hr]
set_option maxHeartbeats 4000000 in
theorem add_f {b0 g n : Nat} {c : Int} {f : Nat → Sx} {v0 : Value} {w : World} (h : Fw b0 g c f n v0 w) (hb0 : b0 ≤ w.heap.size) (hn : n ≤ 100) (p a : Int) :
    Calls Try.prog 75 #[.pointer (some ⟨g, 0, none⟩), .agg (ch 0 0 ⟨#[120]⟩), .int .i64 p, .int .i64 a] w fun e w' => e = .returned (.agg (ch 0 (nx c n) ⟨#[120]⟩)) ∧ (∃ v', Fw b0 g c (upd f n ⟨nx c n, p, a, 1, 0, false, false, false⟩) (n + 1) v' w') ∧ Below b0 w w' := by
  obtain ⟨i0, hi0, hz0, hz1, hz2⟩ := info_parts infoX
  obtain ⟨oa, cap, hv, _, _⟩ := h.q.shape
  subst hv
  have hgw := h.B.lt
  have X1 := (Blk.new w 40 (ch 0 0 ⟨#[120]⟩)).alloc (.cells (ch 0 0 ⟨#[]⟩) 40)
  have R1 := blk_new2 w (.cells (ch 0 0 ⟨#[120]⟩) 40) 40 (ch 0 0 ⟨#[]⟩)
  have F1 := (h.alloc (.cells (ch 0 0 ⟨#[120]⟩) 40)).alloc (.cells (ch 0 0 ⟨#[]⟩) 40)
  have bel1 := ((Below.refl b0 w).alloc (by omega) (.cells (ch 0 0 ⟨#[120]⟩) 40)).alloc (by simp; omega) (.cells (ch 0 0 ⟨#[]⟩) 40)
  have hvl := fun i (hi : blkOf (.slice oa n cap) = some i) => (h.q.lt hi).2
  go_enter Try.func75, Try.ntmps75
  go_upto_region 3 with (fail)
  rw [show (w.alloc (.cells (ch 0 0 ⟨#[120]⟩) 40)).alloc (.cells #[.int .i64 0, .int .i64 0, .int .u32 0, .int .i64 0, .int .i64 0, .int .u32 0, .string ⟨#[]⟩, .int .u32 0, .int .u32 0, .int .i64 0, .int .i64 0, .slice none 0 0, .slice none 0 0, .slice none 0 0, .slice none 0 0] 40) = (w.alloc (.cells (ch 0 0 ⟨#[120]⟩) 40)).alloc (.cells (ch 0 0 ⟨#[]⟩) 40) from rfl]
  generalize (w.alloc (.cells (ch 0 0 ⟨#[120]⟩) 40)).alloc (.cells (ch 0 0 ⟨#[]⟩) 40) = w1 at *
  generalize hr : w.heap.size + 1 = r at *
  generalize hc : w.heap.size = x at *
  have hb0c : b0 ≤ x := by omega
  have hb0r : b0 ≤ r := by omega
  have hgc : g ≠ x := by omega
  have hgr : g ≠ r := by omega
  have hcr : r ≠ x := by omega
  have hvx : blkOf (.slice oa n cap) ≠ some x := fun e => by have := hvl x e; omega
  have hvr : blkOf (.slice oa n cap) ≠ some r := fun e => by have := hvl r e; omega
  clear h
  go_wp2_with (refine wpList_load_at rfl 40 _ rfl x 0 rfl (ch 0 0 ⟨#[120]⟩) _ (Cel.of_blk X1) Try.underlying40 rfl (szC _ _ _) ?_)
  refine (clone_any 0 0 ⟨#[120]⟩ _).mono ?_
  rintro e w2 ⟨rfl, hb2⟩
  have X2 := X1.below hb2 X1.lt
  have R2 := R1.below hb2 R1.lt
  have F2 := F1.below hb2 (Nat.le_refl _)
  have bel2 := bel1.trans (hb2.mono (by have := F1.B.lt; have := R1.lt; omega))
  clear X1 R1 F1 bel1 hb2
  have C3 := (Cel.of_blk X2).setCells_same (ch 0 0 ⟨#[120]⟩).toList rfl
  have R3 := blk_setCells R2 hcr 0 (ch 0 0 ⟨#[120]⟩).toList
  have bel3 := below_setCells bel2 hb0c 0 (ch 0 0 ⟨#[120]⟩).toList
  have F3 : Fw b0 g c f n (.slice oa n cap) (w2.setCells x 0 (ch 0 0 ⟨#[120]⟩).toList) := ⟨blk_setCells F2.B hgc 0 _, F2.q.block (by rw [size_setCells (w := w2)]; exact Nat.le_refl _) (fun i hi => pat.heap_setCells' (fun (e : i = x) => hvx (by rw [← e]; exact hi)) _ _ _), F2.hg, F2.hn⟩
  go_upto_region 4 with (refine wpList_store_at rfl 40 _ _ rfl x 0 (ch 0 0 ⟨#[120]⟩) rfl rfl (ch 0 0 ⟨#[120]⟩) (Cel.of_blk X2) (szC _ _ _) rfl (ch_one _ _ _) ?_)
  clear X2 R2 F2 bel2
  generalize w2.setCells x 0 (ch 0 0 ⟨#[120]⟩).toList = w3 at *
  have C3 : Cel w3 x 0 (ch 0 0 ⟨#[120]⟩) := C3.congr rfl
  go_wp2_with fail
  refine (next_g F3 (by omega)).mono ?_
  rintro e w4 ⟨rfl, hb4⟩
  have C4 := C3.below hb4 C3.lt
  have R4 := R3.below hb4 R3.lt
  have F4 := F3.below hb4 (Nat.le_refl _)
  have bel4 := bel3.trans (hb4.mono (by have := R3.lt; omega))
  clear C3 R3 F3 bel3 hb4
  have x2 : w4.cell? ⟨x, 2, none⟩ = some (.int .u32 0) := C4.cell0 2 rfl
  have x2f : w4.frozen? ⟨x, 2, none⟩ = false := C4.frozen0 2 (by decide)
  go_upto_region 5 with (fail)
  obtain ⟨t, ht⟩ : ∃ t, nx c n = t := ⟨_, rfl⟩
  rw [ht]
  have HT := Lib.hid ht
  have C5 : Cel (w4.setCell ⟨x, 2, none⟩ (.int .u32 t)) x 0 (ch 0 t ⟨#[120]⟩) := (C4.set_ 2 (.int .u32 t)).congr rfl
  have R5 := R4.far (p := ⟨x, 2, none⟩) hcr (.int .u32 t)
  have F5 : Fw b0 g c f n (.slice oa n cap) (w4.setCell ⟨x, 2, none⟩ (.int .u32 t)) := ⟨F4.B.far (p := ⟨x, 2, none⟩) hgc _, F4.q.far (p := ⟨x, 2, none⟩) hvx _, F4.hg, F4.hn⟩
  have bel5 := bel4.setCell (p := ⟨x, 2, none⟩) hb0c (.int .u32 t)
  clear C4 R4 F4 bel4 x2 x2f ht
  generalize w4.setCell ⟨x, 2, none⟩ (.int .u32 t) = w5 at *
  have hxl := C5.lt
  have hrl := R5.lt
  refine wp_region_noPanic ?_
  have HC : Cel w5.drew x 0 (ch 0 t ⟨#[120]⟩) := C5.drew
  have HR := R5.drew
  have HF := F5.drew
  have HBel := bel5.drew
  have HS : w5.drew.cell? ⟨g, 1, none⟩ = some (.slice oa n cap) ∧ Cel w5.drew x 0 (ch 0 t ⟨#[120]⟩) := ⟨HF.B.cell 1, HC⟩
  clear C5 R5 F5 bel5
  refine begin_C (fun v => v.cell? ⟨g, 1, none⟩ = some (.slice oa n cap) ∧ Cel v x 0 (ch 0 t ⟨#[120]⟩)) 13 (by kernel_rfl) ?_
  obtain ⟨w6, hw6⟩ : ∃ w6, w5.drew = w6 := ⟨_, rfl⟩
  have hs6 : w6.heap.size = w5.heap.size := by rw [← hw6]; rfl
  rw [hw6] at HC HR HF HBel HS
  rw [hw6]
  clear hw6
  refine abs_C _ (fun ac hac => ?_)
  have hsz : ac.tmps.size = 32 := by rw [hac]; rfl
  have e0 : ac.eval (.tmp 0) = .pointer (some ⟨g, 0, none⟩) := by rw [hac]; rfl
  have e2 : ac.eval (.tmp 2) = .int .i64 p := by rw [hac]; rfl
  have e3 : ac.eval (.tmp 3) = .int .i64 a := by rw [hac]; rfl
  have e5 : ac.eval (.tmp 5) = .pointer (some ⟨x, 0, none⟩) := by rw [hac]; rfl
  have HB := Lib.hid hac
  clear hac
  have EV := And.intro @Act.eval_put_ne (And.intro @Act.eval_put_same (And.intro @Act.size_put (And.intro hsz (And.intro e0 (And.intro e2 (And.intro e3 e5))))))
  refine take_Y (i := 0) (u := .pointer (some ⟨g, 0, none⟩)) rfl (by kernel_rfl) (by kernel_rfl) (by kernel_rfl) (by decide) rfl rfl (fun _ _ _ h => h) HS (fun v => run_move rfl (by simp [EV]) v) ?_
  refine take_Y (i := 1) (u := .pointer (some ⟨g, 0, none⟩)) rfl (by kernel_rfl) (by kernel_rfl) (by kernel_rfl) (by decide) rfl rfl (fun _ _ _ h => h) HS (fun v => run_move rfl (by simp [EV]) v) ?_
  refine take_Y (i := 2) (u := .pointer (some ⟨g, 0, none⟩)) rfl (by kernel_rfl) (by kernel_rfl) (by kernel_rfl) (by decide) rfl rfl (fun _ _ _ h => h) HS (fun v => run_nilc rfl (by simp [EV])) ?_
  refine take_Y (i := 3) (u := .pointer (some ⟨g, 1, none⟩)) rfl (by kernel_rfl) (by kernel_rfl) (by kernel_rfl) (by decide) rfl rfl (fun _ _ _ h => h) HS (fun v => run_field (s := .pointer (some ⟨g, 0, none⟩)) rfl (by simp [EV]) (by kernel_rfl)) ?_
  refine take_C (i := 4) [10] (u := .slice oa n cap) rfl (by kernel_rfl) (by kernel_rfl) (by kernel_rfl) (by kernel_rfl) (by kernel_rfl) (by decide) rfl rfl (fun _ _ _ h => h) HS (fun v hv => run_load1 (s := .pointer (some ⟨g, 1, none⟩)) rfl (by simp [EV]) (by have c : v.cell? ⟨g, 1, none⟩ = some (.slice oa n cap) := hv.1; go_simp)) ?_
  refine take_C (i := 5) [8, 9, 10] (u := .agg (ch 0 t ⟨#[120]⟩)) rfl (by kernel_rfl) (by kernel_rfl) (by kernel_rfl) (by kernel_rfl) (by kernel_rfl) (by decide) rfl rfl (fun _ _ _ h => h) HS (fun v hv => run_load_at rfl (h := x) (off := 0) (by simp [EV]) _ Try.underlying40 rfl (szC _ _ _) hv.2) ?_
  refine take_Y (i := 6) (u := .int .i64 p) rfl (by kernel_rfl) (by kernel_rfl) (by kernel_rfl) (by decide) rfl rfl (fun _ _ _ h => h) HS (fun v => run_move rfl (by simp [EV]) v) ?_
  refine take_Y (i := 7) (u := .int .i64 a) rfl (by kernel_rfl) (by kernel_rfl) (by kernel_rfl) (by decide) rfl rfl (fun _ _ _ h => h) HS (fun v => run_move rfl (by simp [EV]) v) ?_
  refine take_Y (i := 8) (u := .agg (sx ⟨t, p, a, 1, 0, false, false, false⟩)) rfl (by kernel_rfl) (by kernel_rfl) (by kernel_rfl) (by decide) rfl rfl (fun _ _ _ h => h) HS (fun v => run_build4 rfl (by simp [EV]) (by simp [EV]) (by simp [EV]) (by rfl) (build_sent t p a v)) ?_
  have F7 := HF.alloc (.cells (sx ⟨t, p, a, 1, 0, false, false, false⟩) 231)
  have C7 := HC.alloc (.cells (sx ⟨t, p, a, 1, 0, false, false, false⟩) 231)
  have R7 := HR.alloc (.cells (sx ⟨t, p, a, 1, 0, false, false, false⟩) 231)
  have I7 := src_item (P := Try.prog) (SL := 227) (sz := 22) Try.underlying227 (Blk.new w6 231 (sx ⟨t, p, a, 1, 0, false, false, false⟩)) (sx_one _) rfl
  have bel7 := HBel.alloc (by omega) (.cells (sx ⟨t, p, a, 1, 0, false, false, false⟩) 231)
  refine val_C (i := 9) (u := .slice (some ⟨w6.heap.size, 0, none⟩) 1 1) (w' := w6.alloc (.cells (sx ⟨t, p, a, 1, 0, false, false, false⟩) 231)) (by kernel_rfl) rfl rfl rfl (fun _ => ⟨F7.B.cell 1, C7⟩) (run_build1 (u := .agg (sx ⟨t, p, a, 1, 0, false, false, false⟩)) rfl (by simp [EV]) (by kernel_rfl)) ?_
  have hs7 : w6.heap.size < (w6.alloc (.cells (sx ⟨t, p, a, 1, 0, false, false, false⟩) 231)).heap.size := by simp
  obtain ⟨w7, hw7⟩ : ∃ w7, w6.alloc (.cells (sx ⟨t, p, a, 1, 0, false, false, false⟩) 231) = w7 := ⟨_, rfl⟩
  rw [hw7] at F7 C7 R7 I7 bel7 hs7 ⊢
  clear hw7
  obtain ⟨v', w8, hr8, q8, gr, ha⟩ := qo_append (P := Try.prog) (t := 227) (ty := 227) Try.underlying227 hi0 hz0 hz1 hz2 rfl F7.q I7 (by unfold maxLen; omega) (by omega) (by omega)
  have g8 : Blk w8 g 229 #[.int .u32 c, .slice oa n cap] := (gr.block g F7.B.lt (fun e => F7.hn e.symm)).trans F7.B
  have C8 : Cel w8 x 0 (ch 0 t ⟨#[120]⟩) := C7.block (gr.block x C7.lt (fun e => hvx e.symm)) (Nat.lt_of_lt_of_le C7.lt gr.size)
  have R8 : Blk w8 r 40 (ch 0 0 ⟨#[]⟩) := (gr.block r R7.lt (fun e => hvr e.symm)).trans R7
  have hv8 : blkOf v' ≠ some g ∧ blkOf v' ≠ some x ∧ blkOf v' ≠ some r := by
    have k1 := F7.B.lt; have k2 := C7.lt; have k3 := R7.lt
    rcases ha with e | e | e
    · rw [e]; exact ⟨F7.hn, hvx, hvr⟩
    · rw [e]; exact ⟨fun q => (by cases q; omega), fun q => (by cases q; omega), fun q => (by cases q; omega)⟩
    · rw [e]; exact ⟨fun q => (by cases q), fun q => (by cases q), fun q => (by cases q)⟩
  have q8' : Qo w8 b0 22 v' (n + 1) (cellsF (upd f n ⟨t, p, a, 1, 0, false, false, false⟩) (n + 1)) := by
    rw [cellsF, upd, if_pos rfl, ← cellsF_congr (f := f) (fun i hi => by unfold upd; rw [if_neg (by omega)])]
    exact q8
  have bel8 : Below b0 w w8 := bel7.grown gr (by omega) (fun k hk => (F7.q.lt hk).1)
  have hS8 : w8.cell? ⟨g, 1, none⟩ = some (.slice oa n cap) := g8.cell 1
  have hF8 : w8.frozen? ⟨g, 1, none⟩ = false := g8.frozen 1
  refine app_C (i := 10) (by kernel_rfl) rfl rfl rfl rfl (by simp [EV]) (by simp [EV]) hr8 (fun _ => ⟨hS8, C8⟩) ?_
  refine val_C (i := 11) (u := .pointer (some ⟨g, 0, none⟩)) (by kernel_rfl) rfl rfl rfl (fun _ => ⟨hS8, C8⟩) (run_nilc rfl (by simp [EV])) ?_
  refine val_C (i := 12) (u := .pointer (some ⟨g, 1, none⟩)) (by kernel_rfl) rfl rfl rfl (fun _ => ⟨hS8, C8⟩) (run_field (s := .pointer (some ⟨g, 0, none⟩)) rfl (by simp [EV]) (by kernel_rfl)) ?_
  obtain ⟨o8, c8, hv', _, _⟩ := q8'.shape
  subst hv'
  refine store_C (i := 13) (p := .pointer (some ⟨g, 1, none⟩)) (u := .slice o8 (n + 1) c8) (w' := w8.setCell ⟨g, 1, none⟩ (.slice o8 (n + 1) c8)) (by kernel_rfl) rfl rfl rfl rfl (by simp [EV]) (by simp [EV]) (fun h => absurd rfl h) (by go_simp) ?_
  refine done_C (by kernel_rfl) ?_ _
  refine NoPanic.normal ?_
  rw [HB.out]
  simp only [Act.put, List.setIfInBounds_toArray, List.set_cons_zero, List.set_cons_succ]
  have F9 : Fw b0 g c (upd f n ⟨t, p, a, 1, 0, false, false, false⟩) (n + 1) (.slice o8 (n + 1) c8) (w8.setCell ⟨g, 1, none⟩ (.slice o8 (n + 1) c8)) := ⟨g8.set_ 1 _, q8'.far (p := ⟨g, 1, none⟩) hv8.1 _, F7.hg, hv8.1⟩
  have C9 := C8.far (p := ⟨g, 1, none⟩) (Ne.symm hgc) (.slice o8 (n + 1) c8)
  have R9 := R8.far (p := ⟨g, 1, none⟩) (Ne.symm hgr) (.slice o8 (n + 1) c8)
  have bel9 := bel8.setCell (p := ⟨g, 1, none⟩) F7.hg (.slice o8 (n + 1) c8)
  clear HB HS HC HR HF HBel F7 C7 R7 I7 bel7 hs7 hr8 q8 gr ha g8 C8 R8 q8' bel8 hS8 hF8 EV e0 e2 e3 e5 hsz hi0 hz0 hz1 hz2
  generalize w8.setCell ⟨g, 1, none⟩ (.slice o8 (n + 1) c8) = w9 at *
  have szB := szC 0 t ⟨#[120]⟩
  go_wp2_with (refine wpList_load_at rfl 40 _ rfl x 0 rfl (ch 0 t ⟨#[120]⟩) _ C9 Try.underlying40 rfl szB ?_)
  refine (clone_any 0 t ⟨#[120]⟩ _).mono ?_
  rintro e w10 ⟨rfl, hb10⟩
  have F10 := F9.below hb10 (Nat.le_refl _)
  have R10 := R9.below hb10 R9.lt
  have bel10 := bel9.trans (hb10.mono (by have := R9.lt; omega))
  clear F9 R9 bel9 hb10 C9
  have Z10 := (Cel.of_blk R10).setCells_same (ch 0 t ⟨#[120]⟩).toList rfl
  have F11 : Fw b0 g c (upd f n ⟨t, p, a, 1, 0, false, false, false⟩) (n + 1) (.slice o8 (n + 1) c8) (w10.setCells r 0 (ch 0 t ⟨#[120]⟩).toList) := ⟨blk_setCells F10.B hgr 0 _, F10.q.block (by rw [size_setCells (w := w10)]; exact Nat.le_refl _) (fun i hi => pat.heap_setCells' (fun (e : i = r) => hv8.2.2 (by rw [← e]; exact hi)) _ _ _), F10.hg, F10.hn⟩
  have bel11 := below_setCells bel10 hb0r 0 (ch 0 t ⟨#[120]⟩).toList
  go_wp2_with (refine wpList_store_at rfl 40 _ _ rfl r 0 (ch 0 t ⟨#[120]⟩) rfl rfl (ch 0 0 ⟨#[]⟩) (Cel.of_blk R10) szB rfl (ch_one _ _ _) ?_)
  exact bodyPost_ret (v := .agg (ch 0 t ⟨#[120]⟩)) (results_cell_at rfl _ _ r 0 (ch 0 t ⟨#[120]⟩) _ rfl (Z10.congr rfl) Try.underlying40 rfl szB) rfl ⟨by rw [HT.out], ⟨_, by rw [HT.out]; exact F11⟩, bel11⟩
end Go.Proofs.Ythddacgdmngfhaa.fli
