/- Layer 18: the document's own words: a loose message put (gen-dvh1.py wrote this). -/
import Derived.Test.YthddacgdmngfhaaDvG
namespace Go.Proofs.Ythddacgdmngfhaa.del
open Go.Sort (grow)
open Go.ChangeShapes Go.WideShapes Go.ChangeAt Go.RowKit kit
set_option maxRecDepth 100000
set_option maxHeartbeats 4000000 in
theorem rput_loose {b0 : Nat} {nv wv ov : Value} {N : List Nat} {W O : List Mg} {w : World} (n : Qo w b0 1 nv N.length (cellsN N)) (v : Qo w b0 5 wv W.length (cellsM W)) (o : Qo w b0 5 ov O.length (cellsM O)) (hb0 : b0 ≤ w.heap.size) (k : Nat) (hk : k < N.length) (ss pr : Int) (d : ByteArray) (hO : O.length ≤ 1000) :
    Calls Try.prog 53 #[.agg #[nv, wv, ov], .agg (mgc ⟨(k : Int), ss, true, pr, d⟩)] w (RPut b0 nv wv ov w true N W (O ++ [⟨(k : Int), ss, true, pr, d⟩])) := by
  obtain ⟨i0, hi, hz0, hz1, hz2⟩ := info_parts infoM
  obtain ⟨on, cn, hnv, _, _⟩ := n.shape
  obtain ⟨owv, cw, hwv, _, _⟩ := v.shape
  obtain ⟨oo, co, hov, _, _⟩ := o.shape
  subst hnv
  subst hwv
  subst hov
  obtain ⟨R, al⟩ := rp_new ⟨(k : Int), ss, true, pr, d⟩ n v o
  clear n v o
  have hd : decide ((k : Int) < 0) = false := decide_eq_false (by omega)
  have hd2 : decide ((N.length : Int) ≤ (k : Int)) = false := decide_eq_false (by omega)
  go_enter Try.func53, Try.ntmps53
  go_upto_region 1 with fail
  obtain ⟨w1, hw1⟩ : ∃ w1, ((w.alloc (.cells #[.slice on N.length cn, .slice owv W.length cw, .slice oo O.length co] 87)).alloc (.cells (mgc ⟨(k : Int), ss, true, pr, d⟩) 30)).alloc (.cells #[.slice none 0 0, .slice none 0 0, .slice none 0 0] 87) = w1 := ⟨_, rfl⟩
  rw [hw1] at R al ⊢
  obtain ⟨bx, hbx⟩ : ∃ bx, w.heap.size = bx := ⟨_, rfl⟩
  have hs1 : (w.alloc (.cells #[.slice on N.length cn, .slice owv W.length cw, .slice oo O.length co] 87)).heap.size = bx + 1 := by simp [hbx]
  have hs2 : ((w.alloc (.cells #[.slice on N.length cn, .slice owv W.length cw, .slice oo O.length co] 87)).alloc (.cells (mgc ⟨(k : Int), ss, true, pr, d⟩) 30)).heap.size = bx + 2 := by simp [hbx]
  try rw [hs1]
  try rw [hs2]
  rw [hbx] at R al ⊢
  try rw [show bx + 1 + 1 = bx + 2 from rfl]
  clear hw1 hs1 hs2
  have HBX := Lib.hid hbx
  clear hbx
  have x0 : w1.cell? ⟨bx + 1, 0, none⟩ = some (.int .i64 (k : Int)) := R.M.cell 0
  have x2 : w1.cell? ⟨bx + 1, 2, none⟩ = some (.bool true) := R.M.cell 2
  have s0 : w1.cell? ⟨bx, 0, none⟩ = some (.slice on N.length cn) := R.B.cell 0
  have n0 : (0 : Int) ≤ (N.length : Int) := by omega
  have HR := Lib.hid (And.intro R al)
  clear R al
  go_upto_region 4 with fail
  have HS := Lib.hid (show w1.drew.cell? ⟨bx, 2, none⟩ = some (.slice oo O.length co) ∧ Cel w1.drew (bx + 1) 0 #[.int .i64 (k : Int), .int .i64 ss, .bool true, .int .u32 pr, .string d] from ⟨HR.out.1.drew.B.cell 2, Cel.of_blk HR.out.1.drew.M⟩)
  have HSS := Lib.hid (show ∀ v, Below w1.heap.size w1.drew v → v.cell? ⟨bx, 2, none⟩ = some (.slice oo O.length co) ∧ Cel v (bx + 1) 0 #[.int .i64 (k : Int), .int .i64 ss, .bool true, .int .u32 pr, .string d] from fun v hb => ⟨(HR.out.1.drew.below hb (Nat.le_refl _)).B.cell 2, Cel.of_blk (HR.out.1.drew.below hb (Nat.le_refl _)).M⟩)
  refine wp_region_noPanic ?_
  refine begin_C (fun v => v.cell? ⟨bx, 2, none⟩ = some (.slice oo O.length co) ∧ Cel v (bx + 1) 0 #[.int .i64 (k : Int), .int .i64 ss, .bool true, .int .u32 pr, .string d]) 8 (by kernel_rfl) ?_
  refine abs_C _ (fun b hb => ?_)
  have hsz : b.tmps.size = 163 := by rw [hb]; rfl
  have e2 : b.eval (.tmp 2) = .pointer (some ⟨bx, 0, none⟩) := by rw [hb]; rfl
  have e3 : b.eval (.tmp 3) = .pointer (some ⟨bx + 1, 0, none⟩) := by rw [hb]; rfl
  have HB := Lib.hid hb
  clear hb
  refine take_Y (i := 1) (u := .pointer (some ⟨bx, 2, none⟩)) rfl (by kernel_rfl) (by kernel_rfl) (by kernel_rfl) (by decide) rfl rfl (fun _ _ _ h => h) HS.out (fun v => run_field (s := .pointer (some ⟨bx, 0, none⟩)) rfl (by simp [e2]) (by kernel_rfl)) ?_
  refine take_C (i := 2) [3, 6] (u := .slice oo O.length co) rfl (by kernel_rfl) (by kernel_rfl) (by kernel_rfl) (by kernel_rfl) (by kernel_rfl) (by decide) rfl rfl (fun _ _ _ h => h) HS.out (fun v hv => run_load1 (s := .pointer (some ⟨bx, 2, none⟩)) rfl (by simp [Act.eval_put_ne, Act.eval_put_same, Act.size_put, hsz, e2, e3]) (by have c := hv.1; go_simp)) ?_
  refine take_C (i := 4) [5, 6] (u := .agg #[.int .i64 (k : Int), .int .i64 ss, .bool true, .int .u32 pr, .string d]) rfl (by kernel_rfl) (by kernel_rfl) (by kernel_rfl) (by kernel_rfl) (by kernel_rfl) (by decide) rfl rfl (fun _ _ _ h => h) HS.out (fun v hv => run_load_at rfl (h := bx + 1) (off := 0) (by simp [Act.eval_put_ne, Act.eval_put_same, Act.size_put, hsz, e2, e3]) _ Try.underlying30 rfl (szX ⟨(k : Int), ss, true, pr, d⟩) hv.2) ?_
  refine dappq_C (T := 30) (SL := 85) (fuel := 2) (xv := .agg #[.int .i64 (k : Int), .int .i64 ss, .bool true, .int .u32 pr, .string d]) (sv := .slice oo O.length co) (ITEM := #[.int .i64 (k : Int), .int .i64 ss, .bool true, .int .u32 pr, .string d]) 0 3 5 6 _ _ _ _ 28 31 33 34 30 32 (by kernel_rfl) (by simp [Act.size_put, hsz, dappCT]) rfl rfl rfl rfl ⟨rfl, rfl⟩ ⟨rfl, rfl⟩ ⟨rfl, rfl⟩ ⟨rfl, rfl⟩ rfl rfl
    (fun b v => by kernel_rfl) (fun b v hb => run_build1 rfl hb (by kernel_rfl)) Try.underlying85 hi hz0 hz1 hz2 rfl (by simp [Act.eval_put_ne, Act.eval_put_same, Act.size_put, hsz, e2, e3]) (by simp [Act.eval_put_ne, Act.eval_put_same, Act.size_put, hsz, e2, e3]) (HR.out.1.drew.o) (cellsM_one O) (mgc_one ⟨(k : Int), ss, true, pr, d⟩) rfl (by unfold maxLen; omega) (by omega)
    (fun v hv => HSS.out v hv) (fun vE vM vB oa cp v q bel => ?_)
  have bel' : Below w1.heap.size w1 v := (Below.refl _ _).drew.trans bel
  have R3 := HR.out.1.below bel' (Nat.le_refl _)
  have hbw : bx + 2 < w1.heap.size := HR.out.1.Z.lt
  have q' : Qo v w1.heap.size 5 (.slice oa (O.length + 1) cp) (O ++ [(⟨(k : Int), ss, true, pr, d⟩ : Mg)]).length (cellsM (O ++ [(⟨(k : Int), ss, true, pr, d⟩ : Mg)])) := by
    rw [cellsM_append, List.length_append]
    exact q
  have R4 := R3.setO q' (by have := HBX.out; have := HR.out.2.size; omega) hbw
  have c3 := R3.B.cell 2
  have f3 := R3.B.frozen 2
  have hSv := HSS.out v bel
  refine take_Y (i := 7) (u := .pointer (some ⟨bx, 2, none⟩)) rfl (by kernel_rfl) (by kernel_rfl) (by kernel_rfl) (by decide) rfl rfl (fun _ _ _ h => h) hSv (fun v => run_field (s := .pointer (some ⟨bx, 0, none⟩)) rfl (by simp [Act.eval_put_ne, e2]) (by kernel_rfl)) ?_
  refine store_C (i := 8) (p := .pointer (some ⟨bx, 2, none⟩)) (u := .slice oa (O.length + 1) cp) (w' := v.setCell ⟨bx, 2, none⟩ (.slice oa (O.length + 1) cp)) (by kernel_rfl) rfl rfl rfl rfl (by simp [Act.eval_put_ne, Act.eval_put_same, Act.size_put, hsz]) (by simp [Act.eval_put_ne, Act.eval_put_same, Act.size_put, hsz]) (fun h => absurd rfl h) (by go_simp) ?_
  have bel4 : Below bx w (v.setCell ⟨bx, 2, none⟩ (.slice oa (O.length + 1) cp)) := (HR.out.2.trans (bel'.mono (by omega))).setCell (p := ⟨bx, 2, none⟩) (Nat.le_refl _) _
  have hq := fun i (hi : blkOf (.slice oa (O.length + 1) cp) = some i) => (q.lt hi).1
  have HX := Lib.hid (And.intro R4 (And.intro bel4 hq))
  refine done_C (by kernel_rfl) ?_ _
  refine NoPanic.normal ?_
  rw [HB.out]
  simp only [Act.put, List.setIfInBounds_toArray, List.set_cons_zero, List.set_cons_succ]
  have RC := R4.Z
  have RB := R4.B
  clear HB HS HSS R3 c3 f3 q q' R4 bel4 bel bel' hsz e2 e3 hi hz0 hz1 hz2 hSv hq
  generalize v.setCell ⟨bx, 2, none⟩ (.slice oa (O.length + 1) cp) = w4 at *
  go_wp2_with (first | (refine wpList_load_at rfl 87 _ rfl bx 0 rfl #[.slice on N.length cn, .slice owv W.length cw, .slice oa (O.length + 1) cp] _ (Cel.of_blk RB) Try.underlying87 rfl (szR _ _ _) ?_) | (refine wpList_store_at rfl 87 _ _ rfl (bx + 2) 0 #[.slice on N.length cn, .slice owv W.length cw, .slice oa (O.length + 1) cp] rfl rfl _ (Cel.of_blk RC) (szR _ _ _) rfl (by kernel_rfl) ?_))
  obtain ⟨KK, o1, o2, o3, b3⟩ := HX.out.1.told
  exact bodyPost_ret (v := .tuple #[.agg #[.slice on N.length cn, .slice owv W.length cw, .slice oa (O.length + 1) cp], .bool true]) (by rw [results_cell_tmp_at rfl _ _ (bx + 2) 0 #[.slice on N.length cn, .slice owv W.length cw, .slice oa (O.length + 1) cp] _ rfl KK Try.underlying87 rfl (szR _ _ _)]; rfl) rfl ⟨_, _, _, rfl, o1, o2, o3, fun i hi => by
    rcases hi with h | h | h
    · exact .inl (.inl h)
    · exact .inl (.inr (.inl h))
    · have h1 : w1.heap.size ≤ i := HX.out.2.2 i h; have h2 := HBX.out; exact .inr (by omega), by rw [HBX.out]; exact HX.out.2.1.trans b3⟩
end Go.Proofs.Ythddacgdmngfhaa.del
