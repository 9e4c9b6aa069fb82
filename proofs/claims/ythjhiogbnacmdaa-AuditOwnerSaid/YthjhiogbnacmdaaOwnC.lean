/- Layer 38: the statement walked (gen-own.py wrote this). -/
import Derived.Test.YthjhiogbnacmdaaOwnB
import Derived.Test.YthjhiogbnacmdaaKitS
namespace Go.Proofs.Ythjhiogbnacmdaa.aud
open Go.Sort (grow)
open Go.ChangeShapes Go.WideShapes Go.ChangeAt Go.RowKit kit cut
set_option maxRecDepth 100000

set_option maxHeartbeats 16000000 in
theorem owner_law (oa : Option Addr) (a : Addr) (len cap : Nat) (E : Nat → Ent) (m : Bool) (pf pt pg : Int) (oc : Option Addr) (ca : Addr) (cn cc : Nat) (EK : Nat → ChA) (w : World) (hlc : len ≤ cap) (hcm : cap ≤ maxLen) (hoa : 0 < len → oa = some a) (hr : RowE w a len E) (hK : KR w w.heap.size oc ca cn cc EK) :
    Calls Try.prog 3 #[.slice oa len cap, .agg #[.int .i64 pf, .int .i64 pt, .int .u32 pg, .slice oc cn cc], .bool m] w fun e w' => e = .returned (.bool true) ∧ Below w.heap.size w w' := by
  obtain ⟨i0, hi0, hz0, hz1, hz2⟩ := info_parts infoE
  unfold maxLen at hcm
  have HR := Lib.hid hr
  have hal := hr.lt
  have HK := Lib.hid hK
  clear hr hK
  obtain ⟨f, Hf⟩ : ∃ f, ∀ W, (binOp .and 3 (.int .i64 pf) (.int .i64 1)).run Try.prog W = .ok (.int .i64 f) W := ⟨_, fun W => andI pf 1 W⟩
  obtain ⟨t, Ht⟩ : ∃ t, ∀ W, (binOp .and 3 (.int .i64 pt) (.int .i64 1)).run Try.prog W = .ok (.int .i64 t) W := ⟨_, fun W => andI pt 1 W⟩
  obtain ⟨g, Hg⟩ : ∃ g, ∀ W, (binOp .and 23 (.int .u32 pg) (.int .u32 3)).run Try.prog W = .ok (.int .u32 g) W := ⟨_, fun W => andU pg 3 W⟩
  have HOPS := Lib.hid (And.intro Hf (And.intro Ht Hg))
  clear Hf Ht Hg
  obtain ⟨G, hG⟩ : ∃ G, w.heap.size = G := ⟨_, rfl⟩
  have HGG := Lib.hid hG
  have P1 := (Blk.new w 26 #[.int .i64 pf, .int .i64 pt, .int .u32 pg, .slice oc cn cc]).alloc (.cells #[] 30)
  have P0 := Cel.of_blk P1
  have bel1 := ((Below.refl w.heap.size w).alloc (Nat.le_refl _) (.cells #[.int .i64 pf, .int .i64 pt, .int .u32 pg, .slice oc cn cc] 26)).alloc (by simp) (.cells #[] 30)
  have szp := sz_pk pf pt pg (.slice oc cn cc)
  rw [hG] at P1 P0 bel1
  go_enter Try.func3, Try.ntmps3
  go_upto_region 2 with fail
  obtain ⟨w1, hw1⟩ : ∃ w1, (w.alloc (.cells #[.int .i64 pf, .int .i64 pt, .int .u32 pg, .slice oc cn cc] 26)).alloc (.cells #[] 30) = w1 := ⟨_, rfl⟩
  rw [hw1] at P1 P0 bel1
  try rw [hw1]
  clear hw1
  have hcut := cut07 pf pt pg oc ca cn cc EK w.heap.size w1 bel1.size (HK.out.below (by rw [hG]; exact bel1))
  go_wp2_with (refine wpList_load_at rfl 26 _ rfl G 0 rfl #[.int .i64 pf, .int .i64 pt, .int .u32 pg, .slice oc cn cc] _ P0 Try.underlying26 rfl szp ?_)
  refine hcut.mono ?_
  rintro e w2 ⟨⟨o1, n1, c1, rfl⟩, hb2⟩
  have P2 := P1.below hb2 P1.lt
  have bel2 := bel1.trans (hb2.mono (by have := P1.lt; omega))
  clear P1 P0 bel1 hb2 hcut szp
  have hp2 := P2.lt
  have X3' := Blk.new w2 26 #[.int .i64 pf, .int .i64 pt, .int .u32 pg, .slice o1 n1 c1]
  have P3' := P2.alloc (.cells #[.int .i64 pf, .int .i64 pt, .int .u32 pg, .slice o1 n1 c1] 26)
  have bel3' := bel2.alloc (by omega) (.cells #[.int .i64 pf, .int .i64 pt, .int .u32 pg, .slice o1 n1 c1] 26)
  go_upto_region 3 with fail
  clear P2 bel2
  obtain ⟨w3, hw3⟩ : ∃ w3, w2.alloc (.cells #[.int .i64 pf, .int .i64 pt, .int .u32 pg, .slice o1 n1 c1] 26) = w3 := ⟨_, rfl⟩
  rw [hw3] at X3' P3' bel3'
  try rw [hw3]
  clear hw3
  obtain ⟨pb, hpb, hpG⟩ : ∃ pb, G = pb ∧ G ≤ pb := ⟨G, rfl, Nat.le_refl _⟩
  obtain ⟨xb, hxb, hpx⟩ : ∃ xb, w2.heap.size = xb ∧ pb < xb := ⟨_, rfl, by omega⟩
  have P3 : Blk w3 pb 26 #[.int .i64 pf, .int .i64 pt, .int .u32 pg, .slice oc cn cc] := by rw [← hpb]; exact P3'
  rw [hxb] at X3'
  rw [hxb, hpb]
  clear hxb hpb P3' hp2
  have X3 := X3'
  have bel3 := bel3'
  clear X3' bel3'
  obtain ⟨xv, hxv⟩ : ∃ xv : Value, .slice o1 n1 c1 = xv := ⟨_, rfl⟩
  rw [hxv] at X3
  clear hxv
  have Hf := fun v => HOPS.out.1 v
  have Ht := fun v => HOPS.out.2.1 v
  have Hg := fun v => HOPS.out.2.2 v
  refine wp_region_noPanic ?_
  have HS : ((fun v => v.cell? ⟨pb, 0, none⟩ = some (.int .i64 pf) ∧ v.cell? ⟨pb, 1, none⟩ = some (.int .i64 pt) ∧ v.cell? ⟨pb, 2, none⟩ = some (.int .u32 pg)) : World → Prop) w3.drew := ⟨P3.drew.cell 0, P3.drew.cell 1, P3.drew.cell 2⟩
  refine wp_region_held_drew (S := fun v => v.cell? ⟨pb, 0, none⟩ = some (.int .i64 pf) ∧ v.cell? ⟨pb, 1, none⟩ = some (.int .i64 pt) ∧ v.cell? ⟨pb, 2, none⟩ = some (.int .u32 pg)) (by kernel_rfl) HS (fun _ => ?_)
  refine wpAnyH_abs _ (fun ac hac => ?_)
  have hsz : ac.tmps.size = 97 := by rw [hac]; rfl
  have e4' : ac.eval (.tmp 4) = .pointer (some ⟨pb, 0, none⟩) := by rw [hac]; rfl
  have e9' : ac.eval (.tmp 9) = .pointer (some ⟨xb, 0, none⟩) := by rw [hac]; rfl
  have HB := Lib.hid hac
  clear hac
  have EV := And.intro @Act.eval_put_ne (And.intro @Act.eval_put_same (And.intro @Act.size_put (And.intro hsz (And.intro e4' e9'))))
  refine take_run (i := 0) (u := .pointer (some ⟨pb, 0, none⟩)) rfl (by kernel_rfl) (by kernel_rfl) (by kernel_rfl) rfl rfl (fun _ _ _ h => h) HS (fun v hv => run_field (s := .pointer (some ⟨pb, 0, none⟩)) rfl (by simp [EV]) (by kernel_rfl)) ?_
  refine take_run (i := 1) (u := .int .i64 pf) rfl (by kernel_rfl) (by kernel_rfl) (by kernel_rfl) rfl rfl (fun _ _ _ h => h) HS (fun v hv => run_load1 (s := .pointer (some ⟨pb, 0, none⟩)) rfl (by simp [EV]) (by have c : v.cell? ⟨pb, 0, none⟩ = some (.int .i64 pf) := hv.1; go_simp)) ?_
  refine take_run (i := 2) (u := .int .i64 f) rfl (by kernel_rfl) (by kernel_rfl) (by kernel_rfl) rfl rfl (fun _ _ _ h => h) HS (fun v hv => run_and rfl (by simp [EV]) (by rfl) (Hf v)) ?_
  refine take_run (i := 3) (u := .pointer (some ⟨pb, 1, none⟩)) rfl (by kernel_rfl) (by kernel_rfl) (by kernel_rfl) rfl rfl (fun _ _ _ h => h) HS (fun v hv => run_field (s := .pointer (some ⟨pb, 0, none⟩)) rfl (by simp [EV]) (by kernel_rfl)) ?_
  refine take_run (i := 4) (u := .int .i64 pt) rfl (by kernel_rfl) (by kernel_rfl) (by kernel_rfl) rfl rfl (fun _ _ _ h => h) HS (fun v hv => run_load1 (s := .pointer (some ⟨pb, 1, none⟩)) rfl (by simp [EV]) (by have c : v.cell? ⟨pb, 1, none⟩ = some (.int .i64 pt) := hv.2.1; go_simp)) ?_
  refine take_run (i := 5) (u := .int .i64 t) rfl (by kernel_rfl) (by kernel_rfl) (by kernel_rfl) rfl rfl (fun _ _ _ h => h) HS (fun v hv => run_and rfl (by simp [EV]) (by rfl) (Ht v)) ?_
  refine take_run (i := 6) (u := .pointer (some ⟨pb, 2, none⟩)) rfl (by kernel_rfl) (by kernel_rfl) (by kernel_rfl) rfl rfl (fun _ _ _ h => h) HS (fun v hv => run_field (s := .pointer (some ⟨pb, 0, none⟩)) rfl (by simp [EV]) (by kernel_rfl)) ?_
  refine take_run (i := 7) (u := .int .u32 pg) rfl (by kernel_rfl) (by kernel_rfl) (by kernel_rfl) rfl rfl (fun _ _ _ h => h) HS (fun v hv => run_load1 (s := .pointer (some ⟨pb, 2, none⟩)) rfl (by simp [EV]) (by have c : v.cell? ⟨pb, 2, none⟩ = some (.int .u32 pg) := hv.2.2; go_simp)) ?_
  refine take_run (i := 8) (u := .int .u32 g) rfl (by kernel_rfl) (by kernel_rfl) (by kernel_rfl) rfl rfl (fun _ _ _ h => h) HS (fun v hv => run_and rfl (by simp [EV]) (by rfl) (Hg v)) ?_
  refine take_run (i := 9) (u := .pointer (some ⟨xb, 0, none⟩)) rfl (by kernel_rfl) (by kernel_rfl) (by kernel_rfl) rfl rfl (fun _ _ _ h => h) HS (fun v hv => run_field (s := .pointer (some ⟨xb, 0, none⟩)) rfl (by simp [EV]) (by kernel_rfl)) ?_
  have c0 : w3.drew.cell? ⟨xb, 0, none⟩ = some (.int .i64 pf) := X3.drew.cell 0
  have f0 : w3.drew.frozen? ⟨xb, 0, none⟩ = false := X3.drew.frozen 0
  have Y0 : Blk (w3.drew.setCell ⟨xb, 0, none⟩ (.int .i64 f)) xb 26 #[.int .i64 f, .int .i64 pt, .int .u32 pg, xv] := X3.drew.set_ 0 _
  have Q0 := P3.drew.far (p := ⟨xb, 0, none⟩) (show pb ≠ xb by omega) (.int .i64 f)
  have B0 := bel3.drew.setCell (p := ⟨xb, 0, none⟩) (show G ≤ xb by omega) (.int .i64 f)
  refine step_store (i := 10) (p := .pointer (some ⟨xb, 0, none⟩)) (u := .int .i64 f) (w' := w3.drew.setCell ⟨xb, 0, none⟩ (.int .i64 f)) (by kernel_rfl) rfl rfl rfl rfl (by simp [EV]) (by simp [EV]) ⟨Q0.cell 0, Q0.cell 1, Q0.cell 2⟩ (by go_simp) ?_
  clear c0 f0
  obtain ⟨wq1, hwq⟩ : ∃ wq, w3.drew.setCell ⟨xb, 0, none⟩ (.int .i64 f) = wq := ⟨_, rfl⟩
  rw [hwq] at Y0 Q0 B0
  rw [hwq]
  clear hwq
  have Xq1 := Y0
  have Pq1 := Q0
  have bq1 := B0
  clear Y0 Q0 B0
  have HS : ((fun v => v.cell? ⟨pb, 0, none⟩ = some (.int .i64 pf) ∧ v.cell? ⟨pb, 1, none⟩ = some (.int .i64 pt) ∧ v.cell? ⟨pb, 2, none⟩ = some (.int .u32 pg)) : World → Prop) wq1 := ⟨Pq1.cell 0, Pq1.cell 1, Pq1.cell 2⟩
  refine take_run (i := 11) (u := .pointer (some ⟨xb, 1, none⟩)) rfl (by kernel_rfl) (by kernel_rfl) (by kernel_rfl) rfl rfl (fun _ _ _ h => h) HS (fun v hv => run_field (s := .pointer (some ⟨xb, 0, none⟩)) rfl (by simp [EV]) (by kernel_rfl)) ?_
  have c1 : wq1.cell? ⟨xb, 1, none⟩ = some (.int .i64 pt) := Xq1.cell 1
  have f1 : wq1.frozen? ⟨xb, 1, none⟩ = false := Xq1.frozen 1
  have Y1 : Blk (wq1.setCell ⟨xb, 1, none⟩ (.int .i64 t)) xb 26 #[.int .i64 f, .int .i64 t, .int .u32 pg, xv] := Xq1.set_ 1 _
  have Q1 := Pq1.far (p := ⟨xb, 1, none⟩) (show pb ≠ xb by omega) (.int .i64 t)
  have B1 := bq1.setCell (p := ⟨xb, 1, none⟩) (show G ≤ xb by omega) (.int .i64 t)
  refine step_store (i := 12) (p := .pointer (some ⟨xb, 1, none⟩)) (u := .int .i64 t) (w' := wq1.setCell ⟨xb, 1, none⟩ (.int .i64 t)) (by kernel_rfl) rfl rfl rfl rfl (by simp [EV]) (by simp [EV]) ⟨Q1.cell 0, Q1.cell 1, Q1.cell 2⟩ (by go_simp) ?_
  clear c1 f1
  obtain ⟨wq2, hwq⟩ : ∃ wq, wq1.setCell ⟨xb, 1, none⟩ (.int .i64 t) = wq := ⟨_, rfl⟩
  rw [hwq] at Y1 Q1 B1
  rw [hwq]
  clear hwq
  have Xq2 := Y1
  have Pq2 := Q1
  have bq2 := B1
  clear Y1 Q1 B1
  have HS : ((fun v => v.cell? ⟨pb, 0, none⟩ = some (.int .i64 pf) ∧ v.cell? ⟨pb, 1, none⟩ = some (.int .i64 pt) ∧ v.cell? ⟨pb, 2, none⟩ = some (.int .u32 pg)) : World → Prop) wq2 := ⟨Pq2.cell 0, Pq2.cell 1, Pq2.cell 2⟩
  refine take_run (i := 13) (u := .pointer (some ⟨xb, 2, none⟩)) rfl (by kernel_rfl) (by kernel_rfl) (by kernel_rfl) rfl rfl (fun _ _ _ h => h) HS (fun v hv => run_field (s := .pointer (some ⟨xb, 0, none⟩)) rfl (by simp [EV]) (by kernel_rfl)) ?_
  have c2 : wq2.cell? ⟨xb, 2, none⟩ = some (.int .u32 pg) := Xq2.cell 2
  have f2 : wq2.frozen? ⟨xb, 2, none⟩ = false := Xq2.frozen 2
  have Y2 : Blk (wq2.setCell ⟨xb, 2, none⟩ (.int .u32 g)) xb 26 #[.int .i64 f, .int .i64 t, .int .u32 g, xv] := Xq2.set_ 2 _
  have Q2 := Pq2.far (p := ⟨xb, 2, none⟩) (show pb ≠ xb by omega) (.int .u32 g)
  have B2 := bq2.setCell (p := ⟨xb, 2, none⟩) (show G ≤ xb by omega) (.int .u32 g)
  refine step_store (i := 14) (p := .pointer (some ⟨xb, 2, none⟩)) (u := .int .u32 g) (w' := wq2.setCell ⟨xb, 2, none⟩ (.int .u32 g)) (by kernel_rfl) rfl rfl rfl rfl (by simp [EV]) (by simp [EV]) ⟨Q2.cell 0, Q2.cell 1, Q2.cell 2⟩ (by go_simp) ?_
  clear c2 f2
  obtain ⟨wq3, hwq⟩ : ∃ wq, wq2.setCell ⟨xb, 2, none⟩ (.int .u32 g) = wq := ⟨_, rfl⟩
  rw [hwq] at Y2 Q2 B2
  rw [hwq]
  clear hwq
  have Xq3 := Y2
  have Pq3 := Q2
  have bq3 := B2
  clear Y2 Q2 B2
  have HS : ((fun v => v.cell? ⟨pb, 0, none⟩ = some (.int .i64 pf) ∧ v.cell? ⟨pb, 1, none⟩ = some (.int .i64 pt) ∧ v.cell? ⟨pb, 2, none⟩ = some (.int .u32 pg)) : World → Prop) wq3 := ⟨Pq3.cell 0, Pq3.cell 1, Pq3.cell 2⟩
  refine wpAnyH_done (by kernel_rfl) ?_ _
  refine NoPanic.normal ?_
  rw [HB.out]
  simp only [Act.put, List.setIfInBounds_toArray, List.set_cons_zero, List.set_cons_succ]
  have hlx := Xq3.lt
  have HL := Lib.hid (And.intro Xq3 bq3)
  clear HB HS EV e4' e9' hsz P3 X3 bel3 Xq1 Xq2 Pq1 Pq2 Pq3 bq1 bq2 Xq3 bq3
  clear Hf Ht Hg
  obtain ⟨nn, hnn, hn1, hn2⟩ : ∃ n : Nat, n = min len 12 ∧ n ≤ len ∧ n ≤ 12 := ⟨min len 12, rfl, by omega, by omega⟩
  have HNN := Lib.hid hnn
  clear hnn
  obtain ⟨b1, hb1, hb2'⟩ : ∃ b1, xb < b1 ∧ b1 ≤ xb + 1 := ⟨xb + 1, by omega, by omega⟩
  go_upto_region 4 with fail
  go_wp2_with fail
  go_loopw [7, 8, 10] (fun s7 s8 s10 wr => ∃ (i : Nat) (v : Value), s10 = .int .i64 (i : Nat) ∧ i ≤ nn ∧ v = s7 ∧ s8 = .bool ((nl E i).any (hitL f t g m)) ∧ Qo wr b1 7 v i (cellsE (nl E i)) ∧ Blk wr xb 26 #[.int .i64 f, .int .i64 t, .int .u32 g, xv] ∧ Below G w wr) (fun _ _ s10 _ => nn - (intOf s10).toNat)
  case atStart => exact ⟨0, _, rfl, Nat.zero_le _, rfl, rfl, Qo.empty _ _ _ _, HL.out.1, HL.out.2⟩
  case round =>
    rename World => wr
    clear HL hlx
    obtain ⟨i, v, rfl, hi, rfl, rfl, q, X, bel⟩ := hrel
    by_cases hlt : i < nn
    · have hl1 : i < len := by omega
      have hl1i : (i : Int) < (len : Int) := by omega
      have hl2 : (i : Int) < 12 := by omega
      have hi0' : (0 : Int) ≤ (i : Int) := by omega
      obtain rfl := hoa (by omega)
      have R1 := HR.out.below (bel.mono (show w.heap.size ≤ G by rw [HGG.out]; exact Nat.le_refl _)) (fun h => hal h)
      have hlE := R1.cell i hl1
      obtain ⟨oq, cq, hvq, _, _⟩ := q.shape
      subst hvq
      have hqe := fun j (hj : blkOf (.slice oq i cq) = some j) => (q.lt hj).2
      obtain ⟨wt, hwt⟩ : ∃ wt, (nl E i).any (hitL f t g m) = wt := ⟨_, rfl⟩
      rw [hwt]
      have HW0 := Lib.hid hwt
      have hz := fun (x : World) => near_fn (E i) x
      have szz : (Try.prog.info? 30).map (·.size) = some (er (E i)).size := by show _ = some 7; kernel_rfl
      clear R1 hwt
      go_upto_region 7 with fail
      go_wp2_with (refine wpList_load_from rfl 30 _ rfl (a.add (i * 7)) rfl (er (E i)) _ hlE Try.underlying30 rfl szz ?_)
      refine (hz _).mono ?_
      rcases he : nr (E i) with ⟨x1, x2, x3, x4, x5, x6, x7⟩
      rintro e w4 ⟨rfl, hb4⟩
      have q4 := q.below hb4 (Nat.le_refl _)
      have X4 := X.below hb4 X.lt
      have bel4 := bel.trans (hb4.mono (by have := bel.size; have := HGG.out; omega))
      have HEN := Lib.hid he
      unfold er
      dsimp only
      have hb4s := hb4.size
      clear q X bel hb4 hz hlE szz he
      have x4s := X4.lt
      have N5 := Blk.new w4 30 #[.int .u32 x1, .int .i64 x2, .int .u32 x3, .int .i64 x4, .int .u32 x5, .int .u32 x6, .int .i64 x7]
      have q5 := q4.alloc (.cells #[.int .u32 x1, .int .i64 x2, .int .u32 x3, .int .i64 x4, .int .u32 x5, .int .u32 x6, .int .i64 x7] 30)
      have X5 := X4.alloc (.cells #[.int .u32 x1, .int .i64 x2, .int .u32 x3, .int .i64 x4, .int .u32 x5, .int .u32 x6, .int .i64 x7] 30)
      have bel5 := bel4.alloc (by omega) (.cells #[.int .u32 x1, .int .i64 x2, .int .u32 x3, .int .i64 x4, .int .u32 x5, .int .u32 x6, .int .i64 x7] 30)
      clear q4 X4 bel4
      go_upto_region 8 with fail
      obtain ⟨w5, hw5⟩ : ∃ w5, w4.alloc (.cells #[.int .u32 x1, .int .i64 x2, .int .u32 x3, .int .i64 x4, .int .u32 x5, .int .u32 x6, .int .i64 x7] 30) = w5 := ⟨_, rfl⟩
      rw [hw5] at N5 q5 X5 bel5
      try rw [hw5]
      clear hw5
      obtain ⟨eb, heb⟩ : ∃ eb, w4.heap.size = eb := ⟨_, rfl⟩
      rw [heb] at N5 x4s hb4s
      try rw [heb]
      clear heb
      have hn5 := N5.lt
      have szr := szEr (x1, x2, x3, x4, x5, x6, x7)
      unfold er at szr
      dsimp only at szr
      have C5 := Cel.of_blk N5
      have I6 := src_item (P := Try.prog) (SL := 22) (sz := 7) Try.underlying22 (Blk.new w5 30 #[.int .u32 x1, .int .i64 x2, .int .u32 x3, .int .i64 x4, .int .u32 x5, .int .u32 x6, .int .i64 x7]) (er_one (x1, x2, x3, x4, x5, x6, x7)) rfl
      have al6 := (Below.refl w5.heap.size w5).alloc (Nat.le_refl _) (.cells #[.int .u32 x1, .int .i64 x2, .int .u32 x3, .int .i64 x4, .int .u32 x5, .int .u32 x6, .int .i64 x7] 30)
      have hs6 := al6.size
      obtain ⟨v7, w7, hr7, q7, gr7, ha7⟩ := qo_append (P := Try.prog) (t := 22) (ty := 22) Try.underlying22 hi0 hz0 hz1 hz2 rfl (q5.below al6 (Nat.le_refl _)) I6 (by unfold maxLen; omega) (by omega) (by omega)
      have bel7 : Below G w w7 := (bel5.trans (al6.mono (by omega))).grown gr7 (by have := bel5.size; omega) (fun k hk => by have := ((q5.below al6 (Nat.le_refl _)).lt hk).1; omega)
      have X7 : Blk w7 xb 26 #[.int .i64 f, .int .i64 t, .int .u32 g, xv] := (gr7.block xb (by omega) (fun e => by have := ((q5.below al6 (Nat.le_refl _)).lt e.symm).1; omega)).trans (X5.below al6 X5.lt)
      have N7 : Blk w7 eb 30 #[.int .u32 x1, .int .i64 x2, .int .u32 x3, .int .i64 x4, .int .u32 x5, .int .u32 x6, .int .i64 x7] := (gr7.block eb (by omega) (fun e => by have h := (q5.lt e.symm); have := hqe _ e.symm; omega)).trans (N5.below al6 hn5)
      have q7' : Qo w7 b1 7 v7 (i + 1) (cellsE (nl E (i + 1))) := by
        rw [nl_succ, cellsE_snoc, HEN.out]
        exact q7
      obtain ⟨o7, c7, hv7, _, _⟩ := q7'.shape
      subst hv7
      clear q5 X5 bel5 N5 I6 al6 hs6 q7 gr7 ha7 hi0 hz0 hz1 hz2
      go_upto_region 9 with (first | (refine wpList_load_at rfl 30 _ rfl eb 0 rfl #[.int .u32 x1, .int .i64 x2, .int .u32 x3, .int .i64 x4, .int .u32 x5, .int .u32 x6, .int .i64 x7] _ C5 Try.underlying30 rfl szr ?_) | (at_builtin; refine wpList_append_q rfl _ _ _ rfl rfl rfl hr7 ?_))
      clear hr7 C5 szr
      have n0 : w7.cell? ⟨eb, 0, none⟩ = some (.int .u32 x1) := N7.cell 0
      have n1 : w7.cell? ⟨eb, 1, none⟩ = some (.int .i64 x2) := N7.cell 1
      have n2 : w7.cell? ⟨eb, 2, none⟩ = some (.int .u32 x3) := N7.cell 2
      have n3 : w7.cell? ⟨eb, 3, none⟩ = some (.int .i64 x4) := N7.cell 3
      have n4 : w7.cell? ⟨eb, 4, none⟩ = some (.int .u32 x5) := N7.cell 4
      have n5 : w7.cell? ⟨eb, 5, none⟩ = some (.int .u32 x6) := N7.cell 5
      have y0 : w7.cell? ⟨xb, 0, none⟩ = some (.int .i64 f) := X7.cell 0
      have y1 : w7.cell? ⟨xb, 1, none⟩ = some (.int .i64 t) := X7.cell 1
      have y2 : w7.cell? ⟨xb, 2, none⟩ = some (.int .u32 g) := X7.cell 2
      obtain ⟨tg, htg⟩ : ∃ tg : Int, (bif m then x6 else x5) = tg := ⟨_, rfl⟩
      have HTG := Lib.hid htg
      have HE7 := Lib.hid (And.intro q7' (And.intro X7 bel7))
      clear q7' X7 bel7 N7
      go_upto_if 49 with fail
      go_cut [12] (fun s12 wx => s12 = .int .u32 tg ∧ wx = w7)
      case first =>
        cases m
        · simp only [cond_false] at htg
          subst htg
          go_wp2_with fail
          go_meet
          exact ⟨rfl, rfl⟩
        · simp only [cond_true] at htg
          subst htg
          go_wp2_with fail
          go_meet
          exact ⟨rfl, rfl⟩
      case rest =>
      obtain ⟨rfl, hwc⟩ := hcut
      obtain rfl : w7 = wc := hwc.symm
      clear htg n4 n5
      go_upto_region 12 with fail
      have hH : hitL f t g m (x1, x2, x3, x4, x5, x6, x7) = (decide (x1 = 1) && decide (x3 = 9) && decide (x2 = t) && decide (x4 = f) && decide (tg = g) && !decide (g = 0)) := by rw [← HTG.out]; rfl
      have HHH := Lib.hid hH
      clear hH
      cases wt
      · skip
        by_cases h1 : x1 = 1
        · by_cases h2 : x3 = 9
          · by_cases h3 : x2 = t
            · by_cases h4 : x4 = f
              · by_cases h5 : tg = g
                · by_cases h6 : g = 0
                  · have HR2 := Lib.hid (show (nl E (i + 1)).any (hitL f t g m) = false by rw [nl_succ, List.any_append, HW0.out, HEN.out, List.any_cons, List.any_nil, Bool.or_false, HHH.out]; simp [h1, h2, h3, h4, h5, h6])
                    go_wp2_with fail
                    go_roundw
                    case rel => exact ⟨i + 1, _, by go_num, by omega, rfl, by first | (rw [HR2.out]; done) | (rw [HR2.out]; simp [h1, h2, h3, h4, h5, h6]), HE7.out.1, HE7.out.2.1, HE7.out.2.2⟩
                    case measure => simp [intOf]; omega
                  · have HR2 := Lib.hid (show (nl E (i + 1)).any (hitL f t g m) = true by rw [nl_succ, List.any_append, HW0.out, HEN.out, List.any_cons, List.any_nil, Bool.or_false, HHH.out]; simp [h1, h2, h3, h4, h5, h6])
                    go_wp2_with fail
                    go_roundw
                    case rel => exact ⟨i + 1, _, by go_num, by omega, rfl, by first | (rw [HR2.out]; done) | (rw [HR2.out]; simp [h1, h2, h3, h4, h5, h6]), HE7.out.1, HE7.out.2.1, HE7.out.2.2⟩
                    case measure => simp [intOf]; omega
                · have HR2 := Lib.hid (show (nl E (i + 1)).any (hitL f t g m) = false by rw [nl_succ, List.any_append, HW0.out, HEN.out, List.any_cons, List.any_nil, Bool.or_false, HHH.out]; simp [h1, h2, h3, h4, h5])
                  go_wp2_with fail
                  go_roundw
                  case rel => exact ⟨i + 1, _, by go_num, by omega, rfl, by first | (rw [HR2.out]; done) | (rw [HR2.out]; simp [h1, h2, h3, h4, h5]), HE7.out.1, HE7.out.2.1, HE7.out.2.2⟩
                  case measure => simp [intOf]; omega
              · have HR2 := Lib.hid (show (nl E (i + 1)).any (hitL f t g m) = false by rw [nl_succ, List.any_append, HW0.out, HEN.out, List.any_cons, List.any_nil, Bool.or_false, HHH.out]; simp [h1, h2, h3, h4])
                go_wp2_with fail
                go_roundw
                case rel => exact ⟨i + 1, _, by go_num, by omega, rfl, by first | (rw [HR2.out]; done) | (rw [HR2.out]; simp [h1, h2, h3, h4]), HE7.out.1, HE7.out.2.1, HE7.out.2.2⟩
                case measure => simp [intOf]; omega
            · have HR2 := Lib.hid (show (nl E (i + 1)).any (hitL f t g m) = false by rw [nl_succ, List.any_append, HW0.out, HEN.out, List.any_cons, List.any_nil, Bool.or_false, HHH.out]; simp [h1, h2, h3])
              go_wp2_with fail
              go_roundw
              case rel => exact ⟨i + 1, _, by go_num, by omega, rfl, by first | (rw [HR2.out]; done) | (rw [HR2.out]; simp [h1, h2, h3]), HE7.out.1, HE7.out.2.1, HE7.out.2.2⟩
              case measure => simp [intOf]; omega
          · have HR2 := Lib.hid (show (nl E (i + 1)).any (hitL f t g m) = false by rw [nl_succ, List.any_append, HW0.out, HEN.out, List.any_cons, List.any_nil, Bool.or_false, HHH.out]; simp [h1, h2])
            go_wp2_with fail
            go_roundw
            case rel => exact ⟨i + 1, _, by go_num, by omega, rfl, by first | (rw [HR2.out]; done) | (rw [HR2.out]; simp [h1, h2]), HE7.out.1, HE7.out.2.1, HE7.out.2.2⟩
            case measure => simp [intOf]; omega
        · have HR2 := Lib.hid (show (nl E (i + 1)).any (hitL f t g m) = false by rw [nl_succ, List.any_append, HW0.out, HEN.out, List.any_cons, List.any_nil, Bool.or_false, HHH.out]; simp [h1])
          go_wp2_with fail
          go_roundw
          case rel => exact ⟨i + 1, _, by go_num, by omega, rfl, by first | (rw [HR2.out]; done) | (rw [HR2.out]; simp [h1]), HE7.out.1, HE7.out.2.1, HE7.out.2.2⟩
          case measure => simp [intOf]; omega
      · have HR2 := Lib.hid (show (nl E (i + 1)).any (hitL f t g m) = true by rw [nl_succ, List.any_append, HW0.out]; rfl)
        go_wp2_with fail
        go_roundw
        case rel => exact ⟨i + 1, _, by go_num, by omega, rfl, by rw [HR2.out], HE7.out.1, HE7.out.2.1, HE7.out.2.2⟩
        case measure => simp [intOf]; omega
    · obtain rfl : i = nn := by omega
      have hmin := HNN.out
      have HAny := Lib.hid (show (!decide (g = 0) && (nl E i).any (hitE f t g m)) = (nl E i).any (hitL f t g m) from hit_any f t g m (nl E i))
      have hll := nl_len E i
      have HE := Lib.hid (And.intro q (And.intro X bel))
      have CX := Cel.of_blk X
      have hbs := bel.size
      have hxl := X.lt
      clear q X bel
      obtain ⟨wt, hwt⟩ : ∃ wt, (nl E i).any (hitL f t g m) = wt := ⟨_, rfl⟩
      rw [hwt]
      rw [hwt] at HAny
      clear hwt
      have haw := awake38_any wr
      have szx := sz_pk f t g xv
      by_cases hl : (i : Int) < (len : Int)
      · have h12i : ¬ (i : Int) < 12 := by omega
        clear hmin
        go_wp2_with fail
        refine haw.mono ?_
        rintro e w9 ⟨rfl, hb9⟩
        have q9 : Qo w9 b1 7 v (nl E i).length (cellsE (nl E i)) := by rw [hll]; exact HE.out.1.below hb9 (Nat.le_refl _)
        have C9 := CX.below hb9 hxl
        have bel9 := HE.out.2.2.trans (hb9.mono (by have := HGG.out; omega))
        have how := owner_any m f t g xv q9 (by omega)
        clear haw CX hb9 q9
        have z0 : w9.cell? ⟨xb, 0, none⟩ = some (.int .i64 f) := C9.cell0 0 rfl
        have z1 : w9.cell? ⟨xb, 1, none⟩ = some (.int .i64 t) := C9.cell0 1 rfl
        have z2 : w9.cell? ⟨xb, 2, none⟩ = some (.int .u32 g) := C9.cell0 2 rfl
        have z3 : w9.cell? ⟨xb, 3, none⟩ = some xv := C9.cell0 3 rfl
        clear C9
        go_wp2_with fail
        refine how.mono ?_
        rintro e w10 ⟨he, hb10⟩
        rw [HAny.out] at he
        subst he
        have bel10 := bel9.trans (hb10.mono (by have := bel9.size; have := HGG.out; omega))
        clear how bel9 hb10 z0 z1 z2 z3
        cases wt
        · go_wp2_with fail
          go_ret
          exact ⟨rfl, by first | exact bel10 | (rw [HGG.out]; exact bel10)⟩
        · go_wp2_with fail
          go_ret
          exact ⟨rfl, by first | exact bel10 | (rw [HGG.out]; exact bel10)⟩
      · clear hmin
        go_wp2_with fail
        refine haw.mono ?_
        rintro e w9 ⟨rfl, hb9⟩
        have q9 : Qo w9 b1 7 v (nl E i).length (cellsE (nl E i)) := by rw [hll]; exact HE.out.1.below hb9 (Nat.le_refl _)
        have C9 := CX.below hb9 hxl
        have bel9 := HE.out.2.2.trans (hb9.mono (by have := HGG.out; omega))
        have how := owner_any m f t g xv q9 (by omega)
        clear haw CX hb9 q9
        have z0 : w9.cell? ⟨xb, 0, none⟩ = some (.int .i64 f) := C9.cell0 0 rfl
        have z1 : w9.cell? ⟨xb, 1, none⟩ = some (.int .i64 t) := C9.cell0 1 rfl
        have z2 : w9.cell? ⟨xb, 2, none⟩ = some (.int .u32 g) := C9.cell0 2 rfl
        have z3 : w9.cell? ⟨xb, 3, none⟩ = some xv := C9.cell0 3 rfl
        clear C9
        go_wp2_with fail
        refine how.mono ?_
        rintro e w10 ⟨he, hb10⟩
        rw [HAny.out] at he
        subst he
        have bel10 := bel9.trans (hb10.mono (by have := bel9.size; have := HGG.out; omega))
        clear how bel9 hb10 z0 z1 z2 z3
        cases wt
        · go_wp2_with fail
          go_ret
          exact ⟨rfl, by first | exact bel10 | (rw [HGG.out]; exact bel10)⟩
        · go_wp2_with fail
          go_ret
          exact ⟨rfl, by first | exact bel10 | (rw [HGG.out]; exact bel10)⟩
end Go.Proofs.Ythjhiogbnacmdaa.aud
