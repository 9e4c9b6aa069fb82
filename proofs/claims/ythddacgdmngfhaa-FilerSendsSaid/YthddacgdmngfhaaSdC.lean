/- Layer 40: what a sender sends next, and what it holds behind it. -/
import Derived.Test.YthddacgdmngfhaaSdB
import Derived.Test.YthddacgdmngfhaaKitF
import Derived.Test.YthddacgdmngfhaaFilH
namespace Go.Proofs.Ythddacgdmngfhaa.fil
open Go.Sort (grow)
open Go.ChangeShapes Go.WideShapes Go.ChangeAt Go.RowKit kit oct byt
set_option maxRecDepth 100000

theorem peek_nil {b0 sg : Nat} {v : Value} {w : World} (h : Qs b0 sg v [] w) : Calls Try.prog 28 #[.pointer (some ⟨sg, 0, none⟩)] w fun e w' => e = .returned (.tuple #[.string ⟨#[]⟩, .bool false]) ∧ Below w.heap.size w w' := by
  have hl : ∀ w', w' = w → Calls Try.prog 30 #[.pointer (some ⟨sg, 0, none⟩)] w' fun e w'' => e = .returned (.int .i64 0) ∧ w'' = w := by
    rintro w' rfl
    exact len_qs h
  go_enter Try.func28, Try.ntmps28
  go_wp2_with fail
  refine (hl _ rfl).mono ?_
  rintro e w1 ⟨rfl, rfl⟩
  go_wp2_with fail
  go_ret2
  exact ⟨rfl, Below.refl _ _⟩
set_option maxHeartbeats 2000000 in
theorem peek_qs {b0 sg : Nat} {v : Value} {x : Sg} {r : List Sg} {w : World} (h : Qs b0 sg v (x :: r) w) (k : Nat) (hx : x.a = k * 500) (hi : x.i ≤ 4294967295) (hk : k * 500 < x.d.size ∨ k = 0) (hD : x.d.size ≤ 20000) : Calls Try.prog 28 #[.pointer (some ⟨sg, 0, none⟩)] w fun e w' => e = .returned (.tuple #[.string (pcsK x.i x.d k), .bool true]) ∧ Below w.heap.size w w' := by
  have hl := len_qs h
  have hp := fun W => piece_at x.i k x.d W hi hk hD
  obtain ⟨i, d, a⟩ := x
  dsimp only at hx hp ⊢
  subst hx
  obtain ⟨g, off, cap, hv, h1, h2, h3, h4, _, h6⟩ := h.q.show_ (by simp)
  have K := h6 0 (sgc ⟨i, d, k * 500⟩) (by simp) (by show 3 ≤ 3; omega) (cellsG_get (by rfl))
  have s0 : w.cell? ⟨sg, 0, none⟩ = some (.slice (some ⟨g, off, none⟩) (r.length + 1) cap) := (h.B.cell 0).trans (congrArg some hv)
  have y0 : w.cell? ⟨g, off, none⟩ = some (.int .u32 (i : Nat)) := by have := K.cell 0 (u := .int .u32 (i : Nat)) rfl; simpa using this
  have y1 : w.cell? ⟨g, off + 1, none⟩ = some (.string d) := by have := K.cell 1 (u := .string d) rfl; simpa using this
  have y2 : w.cell? ⟨g, off + 2, none⟩ = some (.int .i64 ((k * 500 : Nat) : Int)) := by have := K.cell 2 (u := .int .i64 ((k * 500 : Nat) : Int)) rfl; simpa using this
  have hlen : ((⟨i, d, k * 500⟩ :: r : List Sg).length : Int) = (r.length : Int) + 1 := by simp
  rw [hlen] at hl
  generalize pcsK i d k = PC at *
  clear h6 K h hv hk hlen
  generalize k * 500 = a at *
  generalize r.length = n at *
  have h10 : ¬ (n : Int) + 1 = 0 := by omega
  have hn1 : (0 : Int) < (n : Int) + 1 := by omega
  unfold maxLen at h2
  go_enter Try.func28, Try.ntmps28
  go_wp2_with fail
  refine hl.mono ?_
  rintro e w1 ⟨rfl, rfl⟩
  go_upto_region 3 with fail
  have k0 := cell_regrown s0
  have k1 := cell_regrown y0
  have k2 := cell_regrown y1
  have k3 := cell_regrown y2
  refine wp_region_quiet_below (by kernel_rfl) (by kernel_rfl) ?_
  repeat (any_goals (first | go_big_quiet_step ((go_at_call 35; with_reducible exact Calls.regrown_of (hp _))) | quiet_step ((go_at_call 35; with_reducible exact Calls.regrown_of (hp _)))))
  refine wpQuiet_nil ?_
  intro _ hw'
  obtain ⟨⟨dq, osq⟩, hw''⟩ := hw'
  subst hw''
  go_wp2_with fail
  go_ret2
  exact ⟨rfl, below_regrown _ dq osq⟩
set_option maxHeartbeats 4000000 in
theorem done_qs {b0 sg : Nat} {v : Value} {x : Sg} {r : List Sg} {w : World} (h : Qs b0 sg v (x :: r) w) (hr16 : r.length < 16) (ha : x.a ≤ 20000) (hD : x.d.size ≤ 20000) : Calls Try.prog 31 #[.pointer (some ⟨sg, 0, none⟩)] w fun e w' => e = .returned (.tuple #[]) ∧ (∃ v', Qs b0 sg v' (if x.a + 500 < x.d.size then r ++ [⟨x.i, x.d, x.a + 500⟩] else r) w' ∧ ∀ k, blkOf v' = some k → blkOf v = some k ∨ w.heap.size ≤ k) ∧ (∀ b, b < w.heap.size → b ≠ sg → blkOf v ≠ some b → w'.heap[b]? = w.heap[b]?) ∧ w.heap.size ≤ w'.heap.size ∧ Below b0 w w' := by
  obtain ⟨i0, hi, hz0, hz1, hz2⟩ := info_parts infoD
  have hl := len_qs h
  obtain ⟨i, d, a⟩ := x
  dsimp only at ha hD ⊢
  have hsg := h.B.lt
  have hb0 := h.hg
  have hlw := fun k (hk : blkOf v = some k) => (h.q.lt hk).2
  obtain ⟨v1, hsl, q1, hbv⟩ := qo_tail (P := Try.prog) (size := 3) (t := 164) Try.underlying164 (szG ⟨0, ⟨#[]⟩, 0⟩) h.q (by simp) .i64
  have q1' : Qo w b0 3 v1 r.length (cellsG r) := q1
  clear q1
  obtain ⟨g, off, cap, hv, h1, h2, h3, h4, hbg, h6⟩ := h.q.show_ (by simp)
  have K0 := h6 0 (sgc ⟨i, d, a⟩) (by simp) (by show 3 ≤ 3; omega) (cellsG_get (by rfl))
  rw [Nat.zero_mul, Nat.add_zero] at K0
  have K : Cel w g off #[.int .u32 (i : Nat), .string d, .int .i64 (a : Nat)] := K0
  clear K0
  have s0 : w.cell? ⟨sg, 0, none⟩ = some (.slice (some ⟨g, off, none⟩) (r.length + 1) cap) := (h.B.cell 0).trans (congrArg some hv)
  have hlen : ((⟨i, d, a⟩ :: r : List Sg).length : Int) = (r.length : Int) + 1 := by simp
  rw [hlen] at hl
  have HB0 := Lib.hid (And.intro h.B h.ne)
  have hsl' : ∀ W, (Instr.slice 164 (.slice (some ⟨g, off, none⟩) (r.length + 1) cap) (some (.int .i64 1)) none none).run Try.prog W = .ok v1 W := fun W => by have := hsl W; rw [hv] at this; exact this
  clear hsl h6 h hlen
  have hgs : g ≠ sg := fun e => HB0.out.2 (by rw [hbg, e])
  obtain ⟨oa1, cap1, hv1, hc1, hm1⟩ := q1'.shape
  have HQ := Lib.hid (And.intro q1' (And.intro hbv (And.intro hv hbg)))
  clear q1' hbv
  subst hv1
  clear hbg
  have h10 : ¬ (r.length : Int) + 1 = 0 := by omega
  have hn1 : (0 : Int) < (r.length : Int) + 1 := by omega
  unfold maxLen at h2
  have HR0 := Lib.hid (rfl : r.length = r.length)
  go_enter Try.func31, Try.ntmps31
  go_wp2_with fail
  refine hl.mono ?_
  rintro e w1 ⟨rfl, hww⟩
  obtain rfl : w = w1 := hww.symm
  have y0 : w.cell? ⟨g, off, none⟩ = some (.int .u32 (i : Nat)) := by have := K.cell 0 (u := .int .u32 (i : Nat)) rfl; simpa using this
  have y1 : w.cell? ⟨g, off + 1, none⟩ = some (.string d) := by have := K.cell 1 (u := .string d) rfl; simpa using this
  have y2 : w.cell? ⟨g, off + 2, none⟩ = some (.int .i64 (a : Nat)) := by have := K.cell 2 (u := .int .i64 (a : Nat)) rfl; simpa using this
  go_upto_region 2 with fail
  have X2 := Blk.new w 168 #[.int .u32 (i : Nat), .string d, .int .i64 (a : Nat)]
  have al2 := (Below.refl w.heap.size w).alloc (Nat.le_refl _) (.cells #[.int .u32 (i : Nat), .string d, .int .i64 (a : Nat)] 168)
  have B2 := HB0.out.1.alloc (.cells #[.int .u32 (i : Nat), .string d, .int .i64 (a : Nat)] 168)
  have q2 := HQ.out.1.alloc (.cells #[.int .u32 (i : Nat), .string d, .int .i64 (a : Nat)] 168)
  have alb2 := (Below.refl b0 w).alloc (by omega) (.cells #[.int .u32 (i : Nat), .string d, .int .i64 (a : Nat)] 168)
  have s2 : (w.alloc (.cells #[.int .u32 (i : Nat), .string d, .int .i64 (a : Nat)] 168)).cell? ⟨sg, 0, none⟩ = some (.slice (some ⟨g, off, none⟩) (r.length + 1) cap) := (B2.cell 0).trans (congrArg some HQ.out.2.2.1)
  have f2 : (w.alloc (.cells #[.int .u32 (i : Nat), .string d, .int .i64 (a : Nat)] 168)).frozen? ⟨sg, 0, none⟩ = false := B2.frozen 0
  clear s0 K hl y0 y1 y2
  generalize w.alloc (.cells #[.int .u32 (i : Nat), .string d, .int .i64 (a : Nat)] 168) = w2 at *
  obtain ⟨xb, hxb⟩ : ∃ xb, w.heap.size = xb := ⟨_, rfl⟩
  have HXB := Lib.hid hxb
  rw [hxb] at X2 al2 hsg ⊢
  go_upto_region 3 with fail
  have hne1 : blkOf (Value.slice oa1 r.length cap1) ≠ some sg := fun e => by
    rcases HQ.out.2.1 with h | h
    · exact HB0.out.2 (by rw [← h]; exact e)
    · rw [h] at e; cases e
  have hnx1 : blkOf (Value.slice oa1 r.length cap1) ≠ some xb := fun e => by
    have := (HQ.out.1.lt e).2
    have := HXB.out
    omega
  have X3 := X2.far (p := ⟨sg, 0, none⟩) (show xb ≠ sg by omega) (.slice oa1 r.length cap1)
  have B3 := B2.set_ 0 (.slice oa1 r.length cap1)
  have q3 := q2.far (p := ⟨sg, 0, none⟩) hne1 (.slice oa1 r.length cap1)
  have alb3 := alb2.setCell (p := ⟨sg, 0, none⟩) hb0 (.slice oa1 r.length cap1)
  have fr3 : ∀ b, b < xb → b ≠ sg → (w2.setCell ⟨sg, 0, none⟩ (.slice oa1 r.length cap1)).heap[b]? = w.heap[b]? := fun b hb hbs => (Below.heap_setCell w2 ⟨sg, 0, none⟩ _ b hbs).trans (al2.block b (by omega))
  have hs3 : xb < (w2.setCell ⟨sg, 0, none⟩ (.slice oa1 r.length cap1)).heap.size := X3.lt
  clear X2 B2 q2 alb2 s2 f2 al2 hsl'
  generalize w2.setCell ⟨sg, 0, none⟩ (.slice oa1 r.length cap1) = w3 at *
  have x2 : w3.cell? ⟨xb, 2, none⟩ = some (.int .i64 (a : Nat)) := X3.cell 2
  have f2 : w3.frozen? ⟨xb, 2, none⟩ = false := X3.frozen 2
  have hwa : IntKind.i64.wrap ((a : Int) + 500) = ((a + 500 : Nat) : Int) := by rw [IntWalk.i64_in _ (by omega)]; omega
  go_upto_region 4 with fail
  clear hwa
  obtain ⟨e5, he5⟩ : ∃ e5 : Int, (a : Int) + 500 = e5 := ⟨_, rfl⟩
  rw [he5]
  obtain rfl : e5 = ((a + 500 : Nat) : Int) := by omega
  clear he5
  have X4 := X3.set_ 2 (.int .i64 ((a + 500 : Nat) : Int))
  have B4 := B3.far (p := ⟨xb, 2, none⟩) (show sg ≠ xb by omega) (.int .i64 ((a + 500 : Nat) : Int))
  have q4 := q3.far (p := ⟨xb, 2, none⟩) hnx1 (.int .i64 ((a + 500 : Nat) : Int))
  have alb4 := alb3.setCell (p := ⟨xb, 2, none⟩) (show b0 ≤ xb by omega) (.int .i64 ((a + 500 : Nat) : Int))
  have fr4 : ∀ b, b < xb → b ≠ sg → (w3.setCell ⟨xb, 2, none⟩ (.int .i64 ((a + 500 : Nat) : Int))).heap[b]? = w.heap[b]? := fun b hb hbs => (Below.heap_setCell w3 ⟨xb, 2, none⟩ _ b (show b ≠ xb by omega)).trans (fr3 b hb hbs)
  clear X3 B3 q3 alb3 fr3 x2 f2
  generalize w3.setCell ⟨xb, 2, none⟩ (.int .i64 ((a + 500 : Nat) : Int)) = w4 at *
  have x1 : w4.cell? ⟨xb, 1, none⟩ = some (.string d) := X4.cell 1
  have x2 : w4.cell? ⟨xb, 2, none⟩ = some (.int .i64 ((a + 500 : Nat) : Int)) := X4.cell 2
  by_cases hfin : a + 500 < d.size
  · have hfi : ((a + 500 : Nat) : Int) < (d.size : Int) := by omega
    have HFIN := Lib.hid hfin
    have hrN : r.length < 16 := hr16
    go_upto_region 5 with fail
    clear x1 x2
    have s4 : w4.cell? ⟨sg, 0, none⟩ = some (.slice oa1 r.length cap1) := B4.cell 0
    have HS := Lib.hid (show w4.drew.cell? ⟨sg, 0, none⟩ = some (.slice oa1 r.length cap1) ∧ Cel w4.drew xb 0 #[.int .u32 i, .string d, .int .i64 ((a + 500 : Nat) : Int)] from ⟨s4, Cel.of_blk X4.drew⟩)
    refine wp_region_noPanic ?_
    refine begin_C (fun v => v.cell? ⟨sg, 0, none⟩ = some (.slice oa1 r.length cap1) ∧ Cel v xb 0 #[.int .u32 i, .string d, .int .i64 ((a + 500 : Nat) : Int)]) 10 (by kernel_rfl) ?_
    refine abs_C _ (fun b hb => ?_)
    have hsz : b.tmps.size = 41 := by rw [hb]; rfl
    have h0 : b.eval (.tmp 0) = (.pointer (some ⟨sg, 0, none⟩)) := by rw [hb]; rfl
    have h2 : b.eval (.tmp 2) = .pointer (some ⟨xb, 0, none⟩) := by rw [hb]; rfl
    have HB := Lib.hid hb
    have HS2 := Lib.hid (And.intro B4 (And.intro q4 (And.intro fr4 alb4)))
    have hx4 : xb < w4.heap.size := X4.lt
    clear hb s4 B4 q4 fr4 alb4 X4
    refine take_Y (i := 0) (u := (.pointer (some ⟨sg, 0, none⟩))) rfl (by kernel_rfl) (by kernel_rfl) (by kernel_rfl) (by decide) rfl rfl (fun _ _ _ h => h) HS.out (fun v => run_move rfl (by simp [Act.eval_put_ne, Act.eval_put_same, Act.size_put, hsz, h0, h2]) v) ?_
    refine take_Y (i := 1) (u := (.pointer (some ⟨sg, 0, none⟩))) rfl (by kernel_rfl) (by kernel_rfl) (by kernel_rfl) (by decide) rfl rfl (fun _ _ _ h => h) HS.out (fun v => run_move rfl (by simp [Act.eval_put_ne, Act.eval_put_same, Act.size_put, hsz, h0, h2]) v) ?_
    refine take_Y (i := 2) (u := (.pointer (some ⟨sg, 0, none⟩))) rfl (by kernel_rfl) (by kernel_rfl) (by kernel_rfl) (by decide) rfl rfl (fun _ _ _ h => h) HS.out (fun v => run_nilc rfl (by simp [Act.eval_put_ne, Act.eval_put_same, Act.size_put, hsz, h0, h2])) ?_
    refine take_Y (i := 3) (u := (.pointer (some ⟨sg, 0, none⟩))) rfl (by kernel_rfl) (by kernel_rfl) (by kernel_rfl) (by decide) rfl rfl (fun _ _ _ h => h) HS.out (fun v => run_field (s := (.pointer (some ⟨sg, 0, none⟩))) rfl (by simp [Act.eval_put_ne, Act.eval_put_same, Act.size_put, hsz, h0, h2]) (by kernel_rfl)) ?_
    refine take_C (i := 4) [7] (u := (.slice oa1 r.length cap1)) rfl (by kernel_rfl) (by kernel_rfl) (by kernel_rfl) (by kernel_rfl) (by kernel_rfl) (by decide) rfl rfl (fun _ _ _ h => h) HS.out (fun v hv => run_load1 (s := (.pointer (some ⟨sg, 0, none⟩))) rfl (by simp [Act.eval_put_ne, Act.eval_put_same, Act.size_put, hsz, h0, h2]) (by have c := hv.1; go_simp)) ?_
    refine take_C (i := 5) [6, 7] (u := (.agg #[.int .u32 i, .string d, .int .i64 ((a + 500 : Nat) : Int)])) rfl (by kernel_rfl) (by kernel_rfl) (by kernel_rfl) (by kernel_rfl) (by kernel_rfl) (by decide) rfl rfl (fun _ _ _ h => h) HS.out (fun v hv => run_load_at rfl (h := xb) (off := 0) (by simp [Act.eval_put_ne, Act.eval_put_same, Act.size_put, hsz, h0, h2]) _ Try.underlying168 rfl (szG ⟨i, d, a + 500⟩) hv.2) ?_
    have alI := (Below.refl w4.heap.size w4.drew).alloc (Nat.le_refl _) (.cells #[.int .u32 i, .string d, .int .i64 ((a + 500 : Nat) : Int)] 168)
    have hsg4 : sg < w4.heap.size := HS2.out.1.lt
    have HSI := Lib.hid (show (w4.drew.alloc (.cells #[.int .u32 i, .string d, .int .i64 ((a + 500 : Nat) : Int)] 168)).cell? ⟨sg, 0, none⟩ = some (.slice oa1 r.length cap1) ∧ Cel (w4.drew.alloc (.cells #[.int .u32 i, .string d, .int .i64 ((a + 500 : Nat) : Int)] 168)) xb 0 #[.int .u32 i, .string d, .int .i64 ((a + 500 : Nat) : Int)] from ⟨(alI.cell (p := ⟨sg, 0, none⟩) (show sg < w4.heap.size by omega)).trans HS.out.1, HS.out.2.alloc _⟩)
    refine val_C (i := 6) (u := .slice (some ⟨w4.drew.heap.size, 0, none⟩) 1 1) (by kernel_rfl) rfl rfl rfl (fun _ => HSI.out) (run_build1 (u := .agg #[.int .u32 i, .string d, .int .i64 ((a + 500 : Nat) : Int)]) rfl (by simp [Act.eval_put_ne, Act.eval_put_same, Act.size_put, hsz, h0, h2]) (by kernel_rfl)) ?_
    have qA : Qo (w4.drew.alloc (.cells #[.int .u32 i, .string d, .int .i64 ((a + 500 : Nat) : Int)] 168)) b0 3 (.slice oa1 r.length cap1) r.length (cellsG r) := HS2.out.2.1.drew.alloc _
    have srcA : Src Try.prog 3 164 (.slice (some ⟨w4.drew.heap.size, 0, none⟩) 1 1) 1 (sgc ⟨i, d, a + 500⟩).toList (w4.drew.alloc (.cells #[.int .u32 i, .string d, .int .i64 ((a + 500 : Nat) : Int)] 168)) := Src.ofSlice _ Try.underlying164 _ 1 1 _ rfl (World.news_of_block (Blk.new _ _ _)) (sgc_one _)
    have hb04 : b0 ≤ w4.heap.size := by omega
    obtain ⟨v8, w8, hr8, q8, grow8, hat8⟩ := qo_append (P := Try.prog) (ty := 164) Try.underlying164 hi hz0 hz1 hz2 rfl qA srcA (by unfold maxLen; omega) (by omega) (by simp; omega)
    obtain ⟨oa8, cap8, hv8, _, _⟩ := q8.shape
    have hvb : ∀ k, blkOf (Value.slice oa1 r.length cap1) = some k → k < xb ∧ k ≠ sg := fun k hk => ⟨by have := (HQ.out.1.lt hk).2; have := HXB.out; omega, fun e => hne1 (by rw [hk, e])⟩
    have B8 : Blk w8 sg 166 #[.slice oa1 r.length cap1] := (grow8.block sg (by simp; omega) (fun e => (hvb sg e.symm).2 rfl)).trans ((show Blk w4.drew sg 166 #[.slice oa1 r.length cap1] from HS2.out.1).alloc _)
    have X8 : Cel w8 xb 0 #[.int .u32 i, .string d, .int .i64 ((a + 500 : Nat) : Int)] := HSI.out.2.block (grow8.block xb (by simp; omega) (fun e => by have := (hvb xb e.symm).1; omega)) (by have := grow8.size; simp at this; omega)
    have HS8 := Lib.hid (show w8.cell? ⟨sg, 0, none⟩ = some (.slice oa1 r.length cap1) ∧ Cel w8 xb 0 #[.int .u32 i, .string d, .int .i64 ((a + 500 : Nat) : Int)] from ⟨B8.cell 0, X8⟩)
    refine app_C (i := 7) (v' := (.slice oa8 (r.length + 1) cap8)) (w' := w8) (by kernel_rfl) rfl rfl rfl rfl (by simp [Act.eval_put_ne, Act.eval_put_same, Act.size_put, hsz, h0, h2]) (by simp [Act.eval_put_ne, Act.eval_put_same, Act.size_put, hsz, h0, h2]) (hv8 ▸ hr8) (fun _ => HS8.out) ?_
    refine take_Y (i := 8) (u := (.pointer (some ⟨sg, 0, none⟩))) rfl (by kernel_rfl) (by kernel_rfl) (by kernel_rfl) (by decide) rfl rfl (fun _ _ _ h => h) HS8.out (fun v => run_nilc rfl (by simp [Act.eval_put_ne, Act.eval_put_same, Act.size_put, hsz, h0, h2])) ?_
    refine take_Y (i := 9) (u := (.pointer (some ⟨sg, 0, none⟩))) rfl (by kernel_rfl) (by kernel_rfl) (by kernel_rfl) (by decide) rfl rfl (fun _ _ _ h => h) HS8.out (fun v => run_field (s := (.pointer (some ⟨sg, 0, none⟩))) rfl (by simp [Act.eval_put_ne, Act.eval_put_same, Act.size_put, hsz, h0, h2]) (by kernel_rfl)) ?_
    have c8 := HS8.out.1
    have f8 : w8.frozen? ⟨sg, 0, none⟩ = false := B8.frozen 0
    refine store_C (i := 10) (p := .pointer (some ⟨sg, 0, none⟩)) (u := (.slice oa8 (r.length + 1) cap8)) (w' := (w8.setCell ⟨sg, 0, none⟩ (.slice oa8 (r.length + 1) cap8))) (by kernel_rfl) rfl rfl rfl rfl (by simp [Act.eval_put_ne, Act.eval_put_same, Act.size_put, hsz, h0, h2]) (by simp [Act.eval_put_ne, Act.eval_put_same, Act.size_put, hsz, h0, h2]) (fun h => absurd rfl h) (by go_simp) ?_
    have hne8 : blkOf v8 ≠ some sg := by
      intro e
      rcases hat8 with h | h | h
      · exact (hvb sg (h ▸ e)).2 rfl
      · rw [h] at e
        simp at e
        omega
      · rw [h] at e
        cases e
    have q9 : Qs b0 sg v8 (r ++ [⟨i, d, a + 500⟩]) (w8.setCell ⟨sg, 0, none⟩ (.slice oa8 (r.length + 1) cap8)) := ⟨by rw [hv8]; exact B8.set_ 0 _, by have := q8.far (p := ⟨sg, 0, none⟩) hne8 (.slice oa8 (r.length + 1) cap8); rw [List.length_append, cellsG_append]; exact this, hne8, hb0⟩
    have hsz9 : w4.heap.size ≤ (w8.setCell ⟨sg, 0, none⟩ (.slice oa8 (r.length + 1) cap8)).heap.size := by have := grow8.size; simp [World.setCell] at this ⊢; omega
    have fr9 : ∀ k, k < xb → k ≠ sg → blkOf v ≠ some k → (w8.setCell ⟨sg, 0, none⟩ (.slice oa8 (r.length + 1) cap8)).heap[k]? = w.heap[k]? := fun k hk hks hkv => by
      rw [Below.heap_setCell w8 ⟨sg, 0, none⟩ _ k hks]
      refine (grow8.block k (by simp; omega) (fun e => hkv ?_)).trans ((alI.block k (by show k < w4.heap.size; omega)).trans (HS2.out.2.2.1 k hk hks))
      rcases HQ.out.2.1 with h | h
      · rw [← h]; exact e.symm
      · rw [h] at e; cases e
    have bel9 : Below b0 w (w8.setCell ⟨sg, 0, none⟩ (.slice oa8 (r.length + 1) cap8)) := (((HS2.out.2.2.2.drew).alloc (by show b0 ≤ w4.heap.size; omega) (.cells #[.int .u32 i, .string d, .int .i64 ((a + 500 : Nat) : Int)] 168)).grown grow8 (by simp; omega) (fun k hk => (qA.lt hk).1)).setCell (p := ⟨sg, 0, none⟩) hb0 _
    have hown : ∀ k, blkOf v8 = some k → blkOf v = some k ∨ w.heap.size ≤ k := fun k hk => by
      rcases hat8 with e | e | e
      · rw [e] at hk
        rcases HQ.out.2.1 with h | h
        · exact .inl (by rw [← h]; exact hk)
        · rw [h] at hk; cases hk
      · rw [e] at hk
        simp at hk
        exact .inr (by have := HXB.out; omega)
      · rw [e] at hk
        cases hk
    have HR := Lib.hid (And.intro q9 (And.intro fr9 (And.intro hsz9 (And.intro bel9 hown))))
    refine done_C (by kernel_rfl) ?_ _
    refine NoPanic.normal ?_
    rw [HB.out]
    simp only [Act.put, List.setIfInBounds_toArray, List.set_cons_zero, List.set_cons_succ]
    clear HB HS HS2 HSI HS8 c8 f8 q9 fr9 bel9 q8 grow8 hat8 B8 X8 alI qA srcA hsz h0 h2 hsz9 hr8 hown
    go_wp2_with fail
    go_end0
    refine ⟨rfl, ⟨v8, HR.out.1, fun k hk => ?_⟩, fun b hb hbs hbv => HR.out.2.1 b (by omega) hbs (by rw [HQ.out.2.2.1]; exact hbv), by have := HR.out.2.2.1; omega, HR.out.2.2.2.1⟩
    have h9 := HR.out.2.2.2.2 k hk
    rw [HQ.out.2.2.1, HXB.out] at h9
    exact h9
  · have hfi : ¬ ((a + 500 : Nat) : Int) < (d.size : Int) := by omega
    have hsz4 : w.heap.size ≤ w4.heap.size := by rw [hxb]; exact Nat.le_of_lt X4.lt
    have Q4 : Qs b0 sg (.slice oa1 r.length cap1) r w4 := ⟨B4, q4, hne1, hb0⟩
    have HF := Lib.hid (And.intro Q4 (And.intro fr4 (And.intro hsz4 alb4)))
    clear q4 Q4 fr4 alb4 B4 X4 hsz4
    go_wp2_with fail
    go_end0
    refine ⟨rfl, ⟨_, HF.out.1, fun k hk => ?_⟩, fun b hb hbs _ => HF.out.2.1 b (by omega) hbs, by first | exact HF.out.2.2.1 | (have := HF.out.2.2.1; omega), HF.out.2.2.2⟩
    rcases HQ.out.2.1 with h | h
    · exact .inl (((congrArg blkOf HQ.out.2.2.1).symm.trans h.symm).trans hk)
    · rw [h] at hk; cases hk
end Go.Proofs.Ythddacgdmngfhaa.fil
