/- Layer 21: a sack comes that says a gap. -/
import Derived.Test.YthddacgdmngfhaaFfG
namespace Go.Proofs.Ythddacgdmngfhaa.fli
open Go.Sort (grow)
open Go.ChangeShapes Go.WideShapes Go.ChangeAt Go.RowKit kit
set_option maxRecDepth 100000

theorem diff_same (c : Int) (w : World) : Calls Try.prog 96 #[.int .u32 c, .int .u32 c] w fun e w' => e = .returned (.int .i64 0) ∧ w' = w := by
  have h0 : IntKind.u32.wrap (c - c) = 0 := by rw [Int.sub_self]; rfl
  have h1 : c - c = 0 := Int.sub_self c
  go_enter Try.func96, Try.ntmps96
  go_wp2_with fail
  go_ret
  exact ⟨rfl, rfl⟩
theorem delete_no (hh off n cap : Nat) (hn : 0 < n) (hn2 : n ≤ 100) (hc : n ≤ cap) (hc2 : cap ≤ maxLen) (w : World) : Calls Try.prog 130 #[.slice (some ⟨hh, off, none⟩) n cap, .int .i64 0, .int .i64 0] w fun e w' => e = .returned (.slice (some ⟨hh, off, none⟩) n cap) ∧ w' = w := by
  unfold maxLen at hc2
  have h1 : (0 : Int) ≤ (n : Int) := by omega
  have h2 : (n : Int) ≤ (cap : Int) := by omega
  go_enter Try.func130, Try.ntmps130
  go_wp2_with fail
  go_ret
  exact ⟨rfl, rfl⟩
theorem acd_one (g1 g2 g3 : Nat) : (acd false g1 g2 g3).all (·.oneCell') = true := by kernel_rfl
theorem szAc (mo : Bool) (g1 g2 g3 : Nat) : (Try.prog.info? 130).map (·.size) = some (acd mo g1 g2 g3).size := by show _ = some 4; kernel_rfl
theorem ZI2 : ZI 2 = #[.int .i64 0, .int .i64 0] := rfl
theorem TK2 : TK 2 2 = #[.int .i64 (-1), .int .i64 (-1)] := rfl
theorem ZB2 : ZB 2 = #[.bool false, .bool false] := rfl
section
variable {N : Nat} {w0 : World} {b0 g n hh off cap qg a g1 g2 g3 r : Nat} {c lo hi : Int} {f : Nat → Sx} {l : Bool} {w : World}
theorem Kf.setA (K : Kf N w0 b0 g c f n hh off cap qg lo hi a g1 g2 g3 r l w) (D : Df N b0 g hh qg a g1 g2 g3 r) (hn : 0 < n) :
    Kf N w0 b0 g c f n hh off cap qg lo hi a g1 g2 g3 r l (w.setCell ⟨a, 0, none⟩ (.bool false)) := by
  have hb := K.blk hn
  refine ⟨⟨K.F.B.far (p := ⟨a, 0, none⟩) D.ga _, K.F.q.far (p := ⟨a, 0, none⟩) (fun e => D.ha (Option.some.inj (hb.symm.trans e))) _, K.F.hg, K.F.hn⟩, K.A.set_ 0 _, ?_, ?_, K.G3.far (p := ⟨a, 0, none⟩) (Ne.symm D.a3) _, K.Q.far (p := ⟨a, 0, none⟩) D.qa _, K.R.far (p := ⟨a, 0, none⟩) D.ra _, size_set _ _ K.hN, fun k hk h1 h2 => (Below.heap_setCell w _ _ k (show k ≠ a by have := D.Na; omega)).trans (K.X k hk h1 h2)⟩
  · obtain ⟨x, y, G⟩ := K.G1; exact ⟨x, y, G.far (p := ⟨a, 0, none⟩) (Ne.symm D.a1) _⟩
  · obtain ⟨x, y, G⟩ := K.G2; exact ⟨x, y, G.far (p := ⟨a, 0, none⟩) (Ne.symm D.a2) _⟩
theorem Kf.setG (K : Kf N w0 b0 g c f n hh off cap qg lo hi a g1 g2 g3 r l w) (D : Df N b0 g hh qg a g1 g2 g3 r) (hn : 0 < n) (j : Nat) (u : Value) (hu : (#[.int .u32 c, .slice (some ⟨hh, off, none⟩) n cap] : Array Value).setIfInBounds j u = #[.int .u32 c, .slice (some ⟨hh, off, none⟩) n cap]) :
    Kf N w0 b0 g c f n hh off cap qg lo hi a g1 g2 g3 r l (w.setCell ⟨g, j, none⟩ u) := by
  have hb := K.blk hn
  have B := K.F.B.set_ j u
  rw [hu] at B
  refine ⟨⟨B, K.F.q.far (p := ⟨g, j, none⟩) (fun e => D.gh (Option.some.inj (e.symm.trans hb))) _, K.F.hg, K.F.hn⟩, K.A.far (p := ⟨g, j, none⟩) (Ne.symm D.ga) _, ?_, ?_, K.G3.far (p := ⟨g, j, none⟩) (Ne.symm D.g_3) _, K.Q.far (p := ⟨g, j, none⟩) D.qg_ _, K.R.far (p := ⟨g, j, none⟩) D.rg _, size_set _ _ K.hN, fun k hk h1 h2 => (Below.heap_setCell w _ _ k (h1)).trans (K.X k hk h1 h2)⟩
  · obtain ⟨x, y, G⟩ := K.G1; exact ⟨x, y, G.far (p := ⟨g, j, none⟩) (Ne.symm D.g_1) _⟩
  · obtain ⟨x, y, G⟩ := K.G2; exact ⟨x, y, G.far (p := ⟨g, j, none⟩) (Ne.symm D.g_2) _⟩
end
set_option maxHeartbeats 4000000 in
theorem sack_f {b0 g n qg h : Nat} {c : Int} {f : Nat → Sx} {v0 : Value} {w : World} (h0 : Fw b0 g c f n v0 w) (hb0 : b0 ≤ w.heap.size) (Q : Blk w qg 133 #[.int .i64 2, .int .i64 (h : Int)]) (hqv : blkOf v0 ≠ some qg) (hn : n ≤ 100) (h2 : 2 ≤ h) (hhn : h ≤ n)
    (hit : ∀ i, 1 ≤ i → i < n → (f i).p = 1 ∧ (f i).a = 0 ∧ (f i).m = 1) (hf0 : (f 0).ca = false ∧ (f 0).p = 1 ∧ 0 ≤ (f 0).mi ∧ (f 0).mi ≤ 100) :
    Calls Try.prog 76 #[.pointer (some ⟨g, 0, none⟩), .int .u32 c, .slice (some ⟨qg, 0, none⟩) 1 1, .int .i64 2, .int .i64 5] w fun e w' => ∃ g1 g2 g3 : Nat, e = .returned (.agg (acd false g1 g2 g3)) ∧ Fw b0 g c (upd (gpd f h n) 0 (ms (f 0))) n v0 w' ∧ Blk w' g3 4 #[.bool false, .bool (lo1 (f 0) false)] ∧ Below b0 w w' ∧ pat.Fr g v0 w w' := by
  obtain ⟨hh, off, cap, hv, hc1, hc2, hhg, hbh, hhl, _⟩ := h0.at_ (show 0 < n by omega)
  subst hv
  have hbk : blkOf (.slice (some ⟨hh, off, none⟩) n cap) = some hh := blkOf_pos (by omega)
  have hqh : qg ≠ hh := fun e => hqv (by rw [e]; exact hbk)
  have hqg : qg ≠ g := by
    intro e
    subst e
    have e1 := Q.cell 0
    have e2 := h0.B.cell 0
    rw [e1] at e2
    cases e2
  have hgw := h0.B.lt
  have hql := Q.lt
  have HIT := Lib.hid hit
  have HF0 := Lib.hid hf0
  have HHH := Lib.hid (And.intro h2 hhn)
  clear hit hf0
  have Q1 := Q.alloc (.cells #[.bool false, .slice none 0 0, .slice none 0 0, .slice none 0 0] 130)
  have R1 := Blk.new w 130 #[.bool false, .slice none 0 0, .slice none 0 0, .slice none 0 0]
  have F1 := h0.alloc (.cells #[.bool false, .slice none 0 0, .slice none 0 0, .slice none 0 0] 130)
  have bel1 := (Below.refl b0 w).alloc (by omega) (.cells #[.bool false, .slice none 0 0, .slice none 0 0, .slice none 0 0] 130)
  have hx1 : ∀ i, i < w.heap.size → (w.alloc (.cells #[.bool false, .slice none 0 0, .slice none 0 0, .slice none 0 0] 130)).heap[i]? = w.heap[i]? := fun i hi => ((Below.refl w.heap.size w).alloc (Nat.le_refl _) _).block i hi
  have HX1 := Lib.hid hx1
  clear hx1
  go_enter Try.func76, Try.ntmps76
  go_upto_region 1 with (fail)
  clear h0 Q
  generalize w.alloc (.cells #[.bool false, .slice none 0 0, .slice none 0 0, .slice none 0 0] 130) = w1 at *
  have hgr : g ≠ w.heap.size := by omega
  have hhr : hh ≠ w.heap.size := by omega
  have hqr : qg ≠ w.heap.size := by omega
  generalize hrr : w.heap.size = r at *
  go_wp2_with fail
  refine (told_all 2 (by omega) _).mono ?_
  rintro e w2 ⟨g1, g2, g3, rfl, ⟨n12, n13, n23, s1, s2, s3⟩, G1, G2, G3, hb2⟩
  have R2 := R1.below hb2 R1.lt
  have F2 := F1.below hb2 (Nat.le_refl _)
  have Q2 := Q1.below hb2 Q1.lt
  have hrw1 := R1.lt
  have hgw1 := F1.B.lt
  have bel2 := bel1.trans (hb2.mono (by omega))
  rw [ZI2] at G1
  rw [TK2] at G2
  rw [ZB2] at G3
  go_upto_region 2 with (fail)
  have A3 := Blk.new w2 130 (acd false g1 g2 g3)
  have hg1l := G1.lt
  have hg2l := G2.lt
  have hg3l := G3.lt
  have hb2s := hb2.size
  have D : Df r b0 g hh qg w2.heap.size g1 g2 g3 r := ⟨F2.hg, hbh, by omega, by omega, by omega, by omega, Ne.symm hhg, by omega, by omega, by omega, by omega, by omega, by omega, by omega, by omega, hqg, hqh, by omega, by omega, by omega, by omega, by omega, by omega, by omega, n12, n13, n23, by omega, by omega, by omega, by omega, by omega, by omega, by omega, by omega, by omega, by omega, Nat.le_refl _⟩
  have K3 : Kf r w b0 g c f n hh off cap qg 2 (h : Int) w2.heap.size g1 g2 g3 r false (w2.alloc (.cells (acd false g1 g2 g3) 130)) := ⟨F2.alloc _, A3, ⟨_, _, G1.alloc _⟩, ⟨_, _, G2.alloc _⟩, G3.alloc _, Q2.alloc _, R2.alloc _, by simp; omega, fun i hi h1 h2 => ((Below.refl w2.heap.size w2).alloc (Nat.le_refl _) _).block i (by omega) |>.trans ((hb2.block i (by omega)).trans (HX1.out i hi))⟩
  have bel3 := bel2.alloc (by omega) (.cells (acd false g1 g2 g3) 130)
  clear A3 F2 Q2 Q1 G1 G2 G3 R2 F1 R1 bel1 bel2 hb2 hg1l hg2l hg3l hb2s
  unfold acd at K3 bel3
  generalize w2.alloc (.cells #[.bool false, .slice (some ⟨g1, 0, none⟩) 2 2, .slice (some ⟨g2, 0, none⟩) 2 2, .slice (some ⟨g3, 0, none⟩) 2 2] 130) = w3 at *
  generalize w2.heap.size = a at *
  have hn0 : 0 < n := by omega
  have c0 : w3.cell? ⟨g, 0, none⟩ = some (.int .u32 c) := K3.F.B.cell 0
  have c1 : w3.cell? ⟨g, 1, none⟩ = some (.slice (some ⟨hh, off, none⟩) n cap) := K3.F.B.cell 1
  have a0 : w3.cell? ⟨a, 0, none⟩ = some (.bool false) := K3.A.cell 0
  have a0f : w3.frozen? ⟨a, 0, none⟩ = false := K3.A.frozen 0
  have hnn : ¬ (n : Int) < 0 := by omega
  go_wp2_with fail
  refine (diff_same c _).mono ?_
  rintro e w4 ⟨rfl, rfl⟩
  go_upto_region 8 with (fail)
  have K4 := K3.setA D hn0
  have bel4 := bel3.setCell (p := ⟨a, 0, none⟩) D.ba (.bool false)
  clear K3 bel3 c0 c1 a0 a0f
  generalize w4.setCell ⟨a, 0, none⟩ (.bool false) = w5 at *
  have c1 : w5.cell? ⟨g, 1, none⟩ = some (.slice (some ⟨hh, off, none⟩) n cap) := K4.F.B.cell 1
  have f1 : w5.frozen? ⟨g, 1, none⟩ = false := K4.F.B.frozen 1
  go_wp2_with fail
  refine wp_loop_rounds 1 ?_
  rw [rounds_succ]
  go_wp2_with fail
  refine (delete_no hh off n cap hn0 hn hc1 hc2 _).mono ?_
  rintro e w6 ⟨rfl, rfl⟩
  go_upto_region 14 with (fail)
  have K7 := K4.setG D hn0 1 (.slice (some ⟨hh, off, none⟩) n cap) rfl
  have bel7 := bel4.setCell (p := ⟨g, 1, none⟩) D.bg (.slice (some ⟨hh, off, none⟩) n cap)
  clear K4 bel4 c1 f1
  generalize w6.setCell ⟨g, 1, none⟩ (.slice (some ⟨hh, off, none⟩) n cap) = w7 at *
  have c0 : w7.cell? ⟨g, 0, none⟩ = some (.int .u32 c) := K7.F.B.cell 0
  have f0 : w7.frozen? ⟨g, 0, none⟩ = false := K7.F.B.frozen 0
  go_upto_region 15 with (fail)
  have K8 := K7.setG D hn0 0 (.int .u32 c) rfl
  have bel8 := bel7.setCell (p := ⟨g, 0, none⟩) D.bg (.int .u32 c)
  clear K7 bel7 c0 f0
  generalize w7.setCell ⟨g, 0, none⟩ (.int .u32 c) = w8 at *
  go_wp2_with fail
  refine (gapped_f D K8 hn h2 hhn HIT.out).mono ?_
  rintro e w9 ⟨rfl, K9, b9⟩
  have bel9 := bel8.trans b9
  clear K8 bel8 b9
  go_wp2_with fail
  have hg0 : gpd f h n 0 = f 0 := by unfold gpd; rw [if_neg (by omega)]
  refine (miss_f D K9 hn h2 hhn (by rw [hg0]; exact HF0.out) (fun i h1 h3 => by unfold gpd; rw [if_pos (by omega)]; rfl)).mono ?_
  rintro e w10 ⟨rfl, K10, b10⟩
  rw [hg0] at K10
  have bel10 := bel9.trans b10
  clear K9 bel9 b10 hg0
  have sz := szAc false g1 g2 g3
  have Z := (Cel.of_blk K10.R).setCells_same (acd false g1 g2 g3).toList rfl
  have F11 : Fw b0 g c (upd (gpd f h n) 0 (ms (f 0))) n (.slice (some ⟨hh, off, none⟩) n cap) (w10.setCells r 0 (acd false g1 g2 g3).toList) := ⟨blk_setCells K10.F.B (Ne.symm D.rg) 0 _, K10.F.q.block (by rw [size_setCells (w := w10)]; exact Nat.le_refl _) (fun i hi => pat.heap_setCells' (fun (e : i = r) => D.rh (Option.some.inj ((by rw [← e]; exact hi.symm : some r = _).trans hbk))) _ _ _), K10.F.hg, K10.F.hn⟩
  have G11 := blk_setCells K10.G3 (Ne.symm D.r3) 0 (acd false g1 g2 g3).toList
  have bel11 := below_setCells bel10 (show b0 ≤ r by omega) 0 (acd false g1 g2 g3).toList
  have CA := Cel.of_blk K10.A
  have CR := Cel.of_blk K10.R
  have FR : pat.Fr g (.slice (some ⟨hh, off, none⟩) n cap) w (w10.setCells r 0 (acd false g1 g2 g3).toList) := ⟨by rw [size_setCells (w := w10)]; have := K10.hN; omega, fun i hi h1 h2 => (pat.heap_setCells' (show i ≠ r by omega) _ _ _).trans (K10.X i (by omega) h1 (fun e => h2 (by rw [e]; exact hbk)))⟩
  have HE := Lib.hid (And.intro F11 (And.intro G11 (And.intro bel11 FR)))
  clear K10 F11 G11 bel11 bel10 FR
  go_wp2_with (first | (refine wpList_load_at rfl 130 _ rfl a 0 rfl (acd false g1 g2 g3) _ CA Try.underlying130 rfl sz ?_) | (refine wpList_store_at rfl 130 _ _ rfl r 0 (acd false g1 g2 g3) rfl rfl #[.bool false, .slice none 0 0, .slice none 0 0, .slice none 0 0] CR sz rfl (acd_one g1 g2 g3) ?_))
  exact bodyPost_ret (v := .agg (acd false g1 g2 g3)) (results_cell_at rfl _ _ r 0 (acd false g1 g2 g3) _ rfl (Z.congr rfl) Try.underlying130 rfl sz) rfl ⟨g1, g2, g3, rfl, HE.out.1, HE.out.2.1, HE.out.2.2.1, HE.out.2.2.2⟩
end Go.Proofs.Ythddacgdmngfhaa.fli
