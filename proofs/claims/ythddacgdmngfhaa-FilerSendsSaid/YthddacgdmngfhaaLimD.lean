/- Layer 40: an object put into a sender. -/
import Derived.Test.YthddacgdmngfhaaLimC
import Derived.Test.YthddacgdmngfhaaKitU
namespace Go.Proofs.Ythddacgdmngfhaa.fil
open Go.Sort (grow)
open Go.ChangeShapes Go.WideShapes Go.ChangeAt Go.RowKit kit oct byt
set_option maxRecDepth 100000

theorem infoD : (Try.prog.info? 168).map (fun i => (i.zero, i.size, i.bytes)) = some (some (.agg #[.int .u32 0, .string ByteArray.empty, .int .i64 0]), 3, 32) := by kernel_rfl
/-- A sender in memory that holds the objects 0 to n - 1. -/
structure Sd (b0 sg n : Nat) (v : Value) (w : World) : Prop where
  B : Blk w sg 166 #[v]
  own : w.ownsRow b0 168 3 v n (cellsD n)
  ne : ∀ k, v.ownBlock = some k → k ≠ sg
  hg : b0 ≤ sg
theorem sd_shape {b0 sg n : Nat} {v : Value} {w : World} (h : Sd b0 sg n v w) : ∃ oa g cap, v = .slice oa n cap ∧ n ≤ cap ∧ cap ≤ maxLen ∧ (0 < n → oa = some ⟨g, 0, none⟩) ∧ (0 < n → g < w.heap.size) ∧ ∀ k, k < n → Cel w g (k * 3) (sdr k) := by
  have h2 := h.own.2
  rcases h2 with ⟨rfl, hz⟩ | ⟨g, cap, cur, rfl, hb, hg, hn, hm, _⟩
  · exact ⟨none, 0, 0, by rw [hz], by omega, by unfold maxLen; omega, fun q => by omega, fun q => by omega, fun k hk => by omega⟩
  · exact ⟨_, g, cap, rfl, hn, hm, fun _ => rfl, fun _ => own_lt h.own g rfl, fun k hk => cel_d (Cel.of_owns h.own) k hk⟩
theorem Sd.below {b0 sg n k : Nat} {v : Value} {w w' : World} (h : Sd b0 sg n v w) (hb : Below k w w') (hk : w.heap.size ≤ k) : Sd b0 sg n v w' :=
  ⟨h.B.below hb (Nat.lt_of_lt_of_le h.B.lt hk), own_below h.own hb (fun q hq => Nat.lt_of_lt_of_le (own_lt h.own q hq) hk), h.ne, h.hg⟩
theorem new_sd (w : World) : Calls Try.prog 25 #[] w fun e w' => e = .returned (.pointer (some ⟨w.heap.size, 0, none⟩)) ∧ Sd w.heap.size w.heap.size 0 (.slice none 0 0) w' ∧ Below w.heap.size w w' := by
  have q : Sd w.heap.size w.heap.size 0 (.slice none 0 0) (w.alloc (.cells #[.slice none 0 0] 166)) := ⟨Blk.new _ _ _, World.ownsRow_nil _ _ _ _, (fun k hk => by cases hk), Nat.le_refl _⟩
  have bel := (Below.refl w.heap.size w).alloc (Nat.le_refl _) (.cells #[.slice none 0 0] 166)
  go_enter Try.func25, Try.ntmps25
  go_wp2_with fail
  go_ret
  exact ⟨rfl, q, bel⟩
set_option maxHeartbeats 1000000 in
theorem put_great {b0 sg n : Nat} {v : Value} (i : Int) (D : ByteArray) (w : World) (q : Sd b0 sg n v w) (hD : 20000 < D.size) (hDm : D.size ≤ maxLen) : Calls Try.prog 27 #[.pointer (some ⟨sg, 0, none⟩), .agg #[.int .u32 i, .string D]] w fun e w' => e = .returned (.int .i64 1) ∧ Below w.heap.size w w' := by
  unfold maxLen at hDm
  clear q
  go_enter Try.func27, Try.ntmps27
  go_wp2_with fail
  go_ret
  exact ⟨rfl, (Below.refl w.heap.size w).alloc (Nat.le_refl _) _⟩
set_option maxHeartbeats 2000000 in
theorem put_full {b0 sg n : Nat} {v : Value} (i : Nat) (w : World) (q : Sd b0 sg n v w) (hn : n = 16) (hi : 16 ≤ i) : Calls Try.prog 27 #[.pointer (some ⟨sg, 0, none⟩), .agg #[.int .u32 i, .string ⟨#[120]⟩]] w fun e w' => e = .returned (.int .i64 6) ∧ Below w.heap.size w w' := by
  have al := (Below.refl w.heap.size w).alloc (Nat.le_refl _) (.cells #[.int .u32 i, .string ⟨#[120]⟩] 57)
  have q1 := q.below al (Nat.le_refl _)
  have O1 := Blk.new w 57 #[.int .u32 (i : Nat), .string ⟨#[120]⟩]
  obtain ⟨oa, g, cap, rfl, c1, c2, c3, c4, c5⟩ := sd_shape q1
  have hc := ctn_none oa g n cap i w.heap.size ⟨#[120]⟩ _ (by omega) c1 c2 c3 c4 c5 (by omega) O1
  have s0 : (w.alloc (.cells #[.int .u32 (i : Nat), .string ⟨#[120]⟩] 57)).cell? ⟨sg, 0, none⟩ = some (.slice oa n cap) := q1.B.cell 0
  have o1 : (w.alloc (.cells #[.int .u32 (i : Nat), .string ⟨#[120]⟩] 57)).cell? ⟨w.heap.size, 1, none⟩ = some (.string ⟨#[120]⟩) := O1.cell 1
  have HC := Lib.hid hc
  have hsg := q1.B.lt
  have B1 := q1.B
  have hni : (16 : Int) ≤ (n : Int) := by omega
  clear hc c3 c4 c5 q q1 hn
  go_enter Try.func27, Try.ntmps27
  go_upto_region 1 with fail
  generalize w.alloc (.cells #[.int .u32 (i : Nat), .string ⟨#[120]⟩] 57) = w1 at *
  go_wp2_with fail
  refine HC.out.mono ?_
  rintro e w2 ⟨rfl, hb2⟩
  have s2 : w2.cell? ⟨sg, 0, none⟩ = some (.slice oa n cap) := (B1.below hb2 hsg).cell 0
  have bel2 := al.trans (hb2.mono al.size)
  clear s0 o1 HC B1 hb2 al
  go_wp2_with fail
  go_ret
  exact ⟨rfl, bel2⟩
set_option maxHeartbeats 4000000 in
theorem put_new {b0 sg n : Nat} {v : Value} (w : World) (q : Sd b0 sg n v w) (hn : n < 16) : Calls Try.prog 27 #[.pointer (some ⟨sg, 0, none⟩), .agg #[.int .u32 n, .string ⟨#[120]⟩]] w fun e w' => e = .returned (.int .i64 0) ∧ (∃ v', Sd b0 sg (n + 1) v' w' ∧ ∀ k, v'.ownBlock = some k → v.ownBlock = some k ∨ w.heap.size ≤ k) ∧ (∀ b, b < w.heap.size → b ≠ sg → v.ownBlock ≠ some b → w'.heap[b]? = w.heap[b]?) ∧ w.heap.size ≤ w'.heap.size ∧ Below b0 w w' := by
  obtain ⟨i0, hi, hz0, hz1, hz2⟩ := info_parts infoD
  have al := (Below.refl w.heap.size w).alloc (Nat.le_refl _) (.cells #[.int .u32 n, .string ⟨#[120]⟩] 57)
  have hsw := q.B.lt
  have hg := q.hg
  have hlw := own_lt q.own
  have alb := (Below.refl b0 w).alloc (by omega) (.cells #[.int .u32 n, .string ⟨#[120]⟩] 57)
  have q1 := q.below al (Nat.le_refl _)
  have O1 := Blk.new w 57 #[.int .u32 (n : Nat), .string ⟨#[120]⟩]
  obtain ⟨oa, g, cap, hv, c1, c2, c3, c4, c5⟩ := sd_shape q1
  have hc := ctn_none oa g n cap n w.heap.size ⟨#[120]⟩ _ (by omega) c1 c2 c3 c4 c5 (Nat.le_refl _) O1
  have s0 : (w.alloc (.cells #[.int .u32 (n : Nat), .string ⟨#[120]⟩] 57)).cell? ⟨sg, 0, none⟩ = some (.slice oa n cap) := hv ▸ q1.B.cell 0
  have o1 : (w.alloc (.cells #[.int .u32 (n : Nat), .string ⟨#[120]⟩] 57)).cell? ⟨w.heap.size, 1, none⟩ = some (.string ⟨#[120]⟩) := O1.cell 1
  have HC := Lib.hid hc
  have HV := Lib.hid hv
  have hni : (n : Int) < 16 := by omega
  clear hc c3 c4 c5 q hv
  go_enter Try.func27, Try.ntmps27
  go_upto_region 1 with fail
  generalize w.alloc (.cells #[.int .u32 (n : Nat), .string ⟨#[120]⟩] 57) = w1 at *
  go_wp2_with fail
  refine HC.out.mono ?_
  rintro e w2 ⟨rfl, hb2⟩
  have q2 := q1.below hb2 (Nat.le_refl _)
  have O2 := O1.below hb2 O1.lt
  have al2 := al.trans (hb2.mono al.size)
  have alb2 := alb.trans (hb2.mono (by have := al.size; omega))
  have s2 : w2.cell? ⟨sg, 0, none⟩ = some (.slice oa n cap) := HV.out ▸ q2.B.cell 0
  have hx : w.heap.size < w2.heap.size := O2.lt
  clear s0 o1 HC hb2 al alb q1 O1
  obtain ⟨x, hxx⟩ : ∃ x, w.heap.size = x := ⟨_, rfl⟩
  rw [hxx] at O2 hx hsw
  have HXX := Lib.hid hxx
  rw [hxx]
  clear hxx
  go_upto_region 6 with fail
  have HS := Lib.hid (show w2.drew.cell? ⟨sg, 0, none⟩ = some (.slice oa n cap) ∧ Cel w2.drew x 0 #[.int .u32 n, .string ⟨#[120]⟩] from ⟨s2, Cel.of_blk O2.drew⟩)
  refine wp_region_noPanic ?_
  refine begin_C (fun v => v.cell? ⟨sg, 0, none⟩ = some (.slice oa n cap) ∧ Cel v x 0 #[.int .u32 n, .string ⟨#[120]⟩]) 11 (by kernel_rfl) ?_
  refine abs_C _ (fun b hb => ?_)
  have hsz : b.tmps.size = 40 := by rw [hb]; rfl
  have h0 : b.eval (.tmp 0) = (.pointer (some ⟨sg, 0, none⟩)) := by rw [hb]; rfl
  have h3 : b.eval (.tmp 3) = .pointer (some ⟨x, 0, none⟩) := by rw [hb]; rfl
  have HB := Lib.hid hb
  have HS2 := Lib.hid (And.intro al2 (And.intro alb2 q2))
  clear hb s2 q2 al2 alb2
  refine take_Y (i := 0) (u := (.pointer (some ⟨sg, 0, none⟩))) rfl (by kernel_rfl) (by kernel_rfl) (by kernel_rfl) (by decide) rfl rfl (fun _ _ _ h => h) HS.out (fun v => run_move rfl (by simp [Act.eval_put_ne, Act.eval_put_same, Act.size_put, hsz, h0, h3]) v) ?_
  refine take_Y (i := 1) (u := (.pointer (some ⟨sg, 0, none⟩))) rfl (by kernel_rfl) (by kernel_rfl) (by kernel_rfl) (by decide) rfl rfl (fun _ _ _ h => h) HS.out (fun v => run_move rfl (by simp [Act.eval_put_ne, Act.eval_put_same, Act.size_put, hsz, h0, h3]) v) ?_
  refine take_Y (i := 2) (u := (.pointer (some ⟨sg, 0, none⟩))) rfl (by kernel_rfl) (by kernel_rfl) (by kernel_rfl) (by decide) rfl rfl (fun _ _ _ h => h) HS.out (fun v => run_nilc rfl (by simp [Act.eval_put_ne, Act.eval_put_same, Act.size_put, hsz, h0, h3])) ?_
  refine take_Y (i := 3) (u := (.pointer (some ⟨sg, 0, none⟩))) rfl (by kernel_rfl) (by kernel_rfl) (by kernel_rfl) (by decide) rfl rfl (fun _ _ _ h => h) HS.out (fun v => run_field (s := (.pointer (some ⟨sg, 0, none⟩))) rfl (by simp [Act.eval_put_ne, Act.eval_put_same, Act.size_put, hsz, h0, h3]) (by kernel_rfl)) ?_
  refine take_C (i := 4) [8] (u := (.slice oa n cap)) rfl (by kernel_rfl) (by kernel_rfl) (by kernel_rfl) (by kernel_rfl) (by kernel_rfl) (by decide) rfl rfl (fun _ _ _ h => h) HS.out (fun v hv => run_load1 (s := (.pointer (some ⟨sg, 0, none⟩))) rfl (by simp [Act.eval_put_ne, Act.eval_put_same, Act.size_put, hsz, h0, h3]) (by have c := hv.1; go_simp)) ?_
  refine take_C (i := 5) [6, 7, 8] (u := (.agg #[.int .u32 n, .string ⟨#[120]⟩])) rfl (by kernel_rfl) (by kernel_rfl) (by kernel_rfl) (by kernel_rfl) (by kernel_rfl) (by decide) rfl rfl (fun _ _ _ h => h) HS.out (fun v hv => run_load_at rfl (h := x) (off := 0) (by simp [Act.eval_put_ne, Act.eval_put_same, Act.size_put, hsz, h0, h3]) _ Try.underlying57 rfl (szO _ _) hv.2) ?_
  refine take_Y (i := 6) (u := (.agg #[.int .u32 n, .string ⟨#[120]⟩, .int .i64 0])) rfl (by kernel_rfl) (by kernel_rfl) (by kernel_rfl) (by decide) rfl rfl (fun _ _ _ h => h) HS.out (fun v => run_buildv (s := .agg #[.int .u32 n, .string ⟨#[120]⟩]) rfl (by simp [Act.eval_put_ne, Act.eval_put_same, Act.size_put, hsz, h0, h3]) (by kernel_rfl)) ?_
  have alI := (Below.refl w2.heap.size w2.drew).alloc (Nat.le_refl _) (.cells #[.int .u32 n, .string ⟨#[120]⟩, .int .i64 0] 168)
  have HSI := Lib.hid (show (w2.drew.alloc (.cells #[.int .u32 n, .string ⟨#[120]⟩, .int .i64 0] 168)).cell? ⟨sg, 0, none⟩ = some (.slice oa n cap) ∧ Cel (w2.drew.alloc (.cells #[.int .u32 n, .string ⟨#[120]⟩, .int .i64 0] 168)) x 0 #[.int .u32 n, .string ⟨#[120]⟩] from ⟨(alI.cell (p := ⟨sg, 0, none⟩) (show sg < w2.heap.size by omega)).trans HS.out.1, HS.out.2.alloc _⟩)
  refine val_C (i := 7) (u := .slice (some ⟨w2.drew.heap.size, 0, none⟩) 1 1) (by kernel_rfl) rfl rfl rfl (fun _ => HSI.out) (run_build1 (u := .agg #[.int .u32 n, .string ⟨#[120]⟩, .int .i64 0]) rfl (by simp [Act.eval_put_ne, Act.eval_put_same, Act.size_put, hsz, h0, h3]) (by kernel_rfl)) ?_
  have ownA : (w2.drew.alloc (.cells #[.int .u32 n, .string ⟨#[120]⟩, .int .i64 0] 168)).ownsRow b0 168 3 (.slice oa n cap) n (cellsD n) := HV.out ▸ own_all (w := w2.drew) HS2.out.2.2.own alI
  obtain ⟨h, c, w8, hr8, own8, grow8, hat8, hlt8⟩ := run_append_lies (P := Try.prog) (w2.drew.alloc (.cells #[.int .u32 n, .string ⟨#[120]⟩, .int .i64 0] 168)) 164 164 b0 168 i0 (.agg #[.int .u32 0, .string ByteArray.empty, .int .i64 0]) 3 32 Try.underlying164 hi hz0 hz1 hz2 rfl (by decide) (.slice oa n cap) n (cellsD n) ownA ⟨w2.drew.heap.size, 0, none⟩ 1 1 (#[.int .u32 n, .string ⟨#[120]⟩, .int .i64 0] : Array Value).toList rfl (World.news_of_block (Blk.new _ _ _)) (by intro u hu; simp only [List.mem_cons, List.not_mem_nil, or_false] at hu; rcases hu with rfl | rfl | rfl <;> rfl) (by omega) (by unfold maxLen; omega) (by omega) (by simp; omega) (w2.heap.size + 1) (by simp)
  have hvb : ∀ k, (Value.slice oa n cap).ownBlock = some k → k < x ∧ k ≠ sg := fun k hk => ⟨by have := hlw k (by rw [HV.out]; exact hk); rw [HXX.out] at this; exact this, HS2.out.2.2.ne k (by rw [HV.out]; exact hk)⟩
  have B8 : Blk w8 sg 166 #[v] := (grow8.block sg (by simp; omega) (fun e => (hvb sg e.symm).2 rfl)).trans ((show Blk w2.drew sg 166 #[v] from HS2.out.2.2.B).alloc _)
  have X8 : Cel w8 x 0 #[.int .u32 n, .string ⟨#[120]⟩] := HSI.out.2.block (grow8.block x (by simp; omega) (fun e => by have := (hvb x e.symm).1; omega)) (by have := grow8.size; simp at this; omega)
  have HS8 := Lib.hid (show w8.cell? ⟨sg, 0, none⟩ = some (.slice oa n cap) ∧ Cel w8 x 0 #[.int .u32 n, .string ⟨#[120]⟩] from ⟨HV.out ▸ B8.cell 0, X8⟩)
  refine app_C (i := 8) (v' := (.slice (some ⟨h, 0, none⟩) (n + 1) c)) (w' := w8) (by kernel_rfl) rfl rfl rfl rfl (by simp [Act.eval_put_ne, Act.eval_put_same, Act.size_put, hsz, h0, h3]) (by simp [Act.eval_put_ne, Act.eval_put_same, Act.size_put, hsz, h0, h3]) hr8 (fun _ => HS8.out) ?_
  refine take_Y (i := 9) (u := (.pointer (some ⟨sg, 0, none⟩))) rfl (by kernel_rfl) (by kernel_rfl) (by kernel_rfl) (by decide) rfl rfl (fun _ _ _ h => h) HS8.out (fun v => run_nilc rfl (by simp [Act.eval_put_ne, Act.eval_put_same, Act.size_put, hsz, h0, h3])) ?_
  refine take_Y (i := 10) (u := (.pointer (some ⟨sg, 0, none⟩))) rfl (by kernel_rfl) (by kernel_rfl) (by kernel_rfl) (by decide) rfl rfl (fun _ _ _ h => h) HS8.out (fun v => run_field (s := (.pointer (some ⟨sg, 0, none⟩))) rfl (by simp [Act.eval_put_ne, Act.eval_put_same, Act.size_put, hsz, h0, h3]) (by kernel_rfl)) ?_
  have c8 := HS8.out.1
  have f8 : w8.frozen? ⟨sg, 0, none⟩ = false := B8.frozen 0
  refine store_C (i := 11) (p := .pointer (some ⟨sg, 0, none⟩)) (u := (.slice (some ⟨h, 0, none⟩) (n + 1) c)) (w' := (w8.setCell ⟨sg, 0, none⟩ (.slice (some ⟨h, 0, none⟩) (n + 1) c))) (by kernel_rfl) rfl rfl rfl rfl (by simp [Act.eval_put_ne, Act.eval_put_same, Act.size_put, hsz, h0, h3]) (by simp [Act.eval_put_ne, Act.eval_put_same, Act.size_put, hsz, h0, h3]) (fun h => absurd rfl h) (by go_simp) ?_
  have hne8 : h ≠ sg := by
    rcases hat8 with e | e
    · exact (hvb h e).2
    · omega
  have own9 : (w8.setCell ⟨sg, 0, none⟩ (.slice (some ⟨h, 0, none⟩) (n + 1) c)).ownsRow b0 168 3 (.slice (some ⟨h, 0, none⟩) (n + 1) c) (n + 1) (cellsD (n + 1)) := own_other own8 (fun k hk => Below.heap_setCell _ _ _ _ (by simp [Value.ownBlock] at hk; show k ≠ sg; omega))
  have q9 : Sd b0 sg (n + 1) (.slice (some ⟨h, 0, none⟩) (n + 1) c) (w8.setCell ⟨sg, 0, none⟩ (.slice (some ⟨h, 0, none⟩) (n + 1) c)) := ⟨B8.set_ 0 _, own9, fun k hk => by simp [Value.ownBlock] at hk; omega, hg⟩
  have hsz9 : w2.heap.size ≤ (w8.setCell ⟨sg, 0, none⟩ (.slice (some ⟨h, 0, none⟩) (n + 1) c)).heap.size := by have := grow8.size; simp [World.setCell] at this ⊢; omega
  have fr9 : ∀ k, k < x → k ≠ sg → v.ownBlock ≠ some k → (w8.setCell ⟨sg, 0, none⟩ (.slice (some ⟨h, 0, none⟩) (n + 1) c)).heap[k]? = w.heap[k]? := fun k hk hks hkv => by
    rw [Below.heap_setCell w8 ⟨sg, 0, none⟩ _ k hks]
    exact (grow8.block k (by simp; omega) (fun e => hkv (by rw [HV.out]; exact e.symm))).trans ((alI.block k (by show k < w2.heap.size; omega)).trans (HS2.out.1.block k (by rw [HXX.out]; exact hk)))
  have bel9 : Below b0 w (w8.setCell ⟨sg, 0, none⟩ (.slice (some ⟨h, 0, none⟩) (n + 1) c)) := (((HS2.out.2.1.drew).alloc (by show b0 ≤ w2.heap.size; omega) (.cells #[.int .u32 n, .string ⟨#[120]⟩, .int .i64 0] 168)).grown grow8 (by simp; omega) (fun k hk => own_ge ownA k hk)).setCell (p := ⟨sg, 0, none⟩) hg _
  have HR := Lib.hid (And.intro q9 (And.intro fr9 (And.intro hsz9 bel9)))
  have HAT := Lib.hid hat8
  refine done_C (by kernel_rfl) ?_ _
  refine NoPanic.normal ?_
  rw [HB.out]
  simp only [Act.put, List.setIfInBounds_toArray, List.set_cons_zero, List.set_cons_succ]
  clear HB HS HS2 HSI HS8 c8 f8 own9 q9 fr9 bel9 own8 grow8 hat8 B8 X8 alI ownA hsz h0 h3 hsz9 hr8
  go_wp2_with fail
  go_ret
  refine ⟨rfl, ⟨_, HR.out.1, fun k hk => ?_⟩, by rw [HXX.out]; exact HR.out.2.1, by rw [HXX.out]; have := HR.out.2.2.1; omega, HR.out.2.2.2⟩
  simp [Value.ownBlock] at hk
  subst hk
  rcases HAT.out with e | e
  · exact .inl (by rw [HV.out]; exact e)
  · exact .inr (by rw [HXX.out]; omega)
end Go.Proofs.Ythddacgdmngfhaa.fil
