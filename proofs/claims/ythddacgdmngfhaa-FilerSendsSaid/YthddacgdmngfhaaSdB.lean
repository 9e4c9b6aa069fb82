/- Layer 40: an object put into a sender. -/
import Derived.Test.YthddacgdmngfhaaSdA
import Derived.Test.YthddacgdmngfhaaKitU
namespace Go.Proofs.Ythddacgdmngfhaa.fil
open Go.Sort (grow)
open Go.ChangeShapes Go.WideShapes Go.ChangeAt Go.RowKit kit oct byt
set_option maxRecDepth 100000

set_option maxHeartbeats 2000000 in
theorem put_dup {b0 sg : Nat} {v : Value} {L : List Sg} (i : Nat) (D : ByteArray) (w : World) (q : Qs b0 sg v L w) (hn : L.length ≤ 16) (hi : ∃ x ∈ L, x.i = i) (hD : D.size ≤ 20000) : Calls Try.prog 27 #[.pointer (some ⟨sg, 0, none⟩), .agg #[.int .u32 i, .string D]] w fun e w' => e = .returned (.int .i64 1) ∧ Below w.heap.size w w' := by
  have al := (Below.refl w.heap.size w).alloc (Nat.le_refl _) (.cells #[.int .u32 i, .string D] 57)
  have q1 := q.below al (Nat.le_refl _)
  have O1 := Blk.new w 57 #[.int .u32 (i : Nat), .string D]
  have hc := ctn_any i w.heap.size D _ q1.q hn O1 true (by simp only [true_iff]; exact hi)
  have s0 : (w.alloc (.cells #[.int .u32 (i : Nat), .string D] 57)).cell? ⟨sg, 0, none⟩ = some v := q1.B.cell 0
  have o1 : (w.alloc (.cells #[.int .u32 (i : Nat), .string D] 57)).cell? ⟨w.heap.size, 1, none⟩ = some (.string D) := O1.cell 1
  have HC := Lib.hid hc
  have hDi : ¬ (20000 : Int) < (D.size : Int) := by omega
  obtain ⟨oa, cap, hv, _, _⟩ := q1.q.shape
  rw [hv] at s0 HC
  clear hc q q1 hi hv
  go_enter Try.func27, Try.ntmps27
  go_upto_region 1 with fail
  generalize w.alloc (.cells #[.int .u32 (i : Nat), .string D] 57) = w1 at *
  go_wp2_with fail
  refine HC.out.mono ?_
  rintro e w2 ⟨rfl, hb2⟩
  have bel2 := al.trans (hb2.mono al.size)
  clear s0 o1 HC hb2 al
  go_wp2_with fail
  go_ret
  exact ⟨rfl, bel2⟩
set_option maxHeartbeats 4000000 in
theorem put_add {b0 sg : Nat} {v : Value} {L : List Sg} (n : Nat) (D : ByteArray) (w : World) (q : Qs b0 sg v L w) (hn : L.length < 16) (hno : ∀ x ∈ L, x.i ≠ n) (hD : D.size ≤ 20000) : Calls Try.prog 27 #[.pointer (some ⟨sg, 0, none⟩), .agg #[.int .u32 n, .string D]] w fun e w' => e = .returned (.int .i64 0) ∧ (∃ v', Qs b0 sg v' (L ++ [⟨n, D, 0⟩]) w' ∧ ∀ k, blkOf v' = some k → blkOf v = some k ∨ w.heap.size ≤ k) ∧ (∀ b, b < w.heap.size → b ≠ sg → blkOf v ≠ some b → w'.heap[b]? = w.heap[b]?) ∧ w.heap.size ≤ w'.heap.size ∧ Below b0 w w' := by
  obtain ⟨i0, hi, hz0, hz1, hz2⟩ := info_parts infoD
  have al := (Below.refl w.heap.size w).alloc (Nat.le_refl _) (.cells #[.int .u32 n, .string D] 57)
  have hsw := q.B.lt
  have hg := q.hg
  have hlw := fun k (hk : blkOf v = some k) => (q.q.lt hk).2
  have alb := (Below.refl b0 w).alloc (by omega) (.cells #[.int .u32 n, .string D] 57)
  have q1 := q.below al (Nat.le_refl _)
  have O1 := Blk.new w 57 #[.int .u32 (n : Nat), .string D]
  obtain ⟨oa, cap, hv, c1, c2⟩ := q1.q.shape
  have hc := ctn_any n w.heap.size D _ q1.q (by omega) O1 false (by simp only [Bool.false_eq_true, false_iff]; rintro ⟨x, hx, he⟩; exact hno x hx he)
  obtain ⟨N, hN⟩ : ∃ N, L.length = N := ⟨_, rfl⟩
  rw [hv, hN] at hc
  rw [hN] at hv hn c1
  have s0 : (w.alloc (.cells #[.int .u32 (n : Nat), .string D] 57)).cell? ⟨sg, 0, none⟩ = some (.slice oa N cap) := (q1.B.cell 0).trans (congrArg some hv)
  have o1 : (w.alloc (.cells #[.int .u32 (n : Nat), .string D] 57)).cell? ⟨w.heap.size, 1, none⟩ = some (.string D) := O1.cell 1
  have HC := Lib.hid hc
  have HV := Lib.hid hv
  have hni : (N : Int) < 16 := by omega
  have HN := Lib.hid (And.intro hN hno)
  have hDi : ¬ (20000 : Int) < (D.size : Int) := by omega
  clear hc q hv hN hno
  go_enter Try.func27, Try.ntmps27
  go_upto_region 1 with fail
  generalize w.alloc (.cells #[.int .u32 (n : Nat), .string D] 57) = w1 at *
  go_wp2_with fail
  refine HC.out.mono ?_
  rintro e w2 ⟨rfl, hb2⟩
  have q2 := q1.below hb2 (Nat.le_refl _)
  have O2 := O1.below hb2 O1.lt
  have al2 := al.trans (hb2.mono al.size)
  have alb2 := alb.trans (hb2.mono (by have := al.size; omega))
  have s2 : w2.cell? ⟨sg, 0, none⟩ = some (.slice oa N cap) := (q2.B.cell 0).trans (congrArg some HV.out)
  have hx : w.heap.size < w2.heap.size := O2.lt
  clear s0 o1 HC hb2 al alb q1 O1
  obtain ⟨x, hxx⟩ : ∃ x, w.heap.size = x := ⟨_, rfl⟩
  rw [hxx] at O2 hx hsw
  have HXX := Lib.hid hxx
  rw [hxx]
  clear hxx
  go_upto_region 6 with fail
  have HS := Lib.hid (show w2.drew.cell? ⟨sg, 0, none⟩ = some (.slice oa N cap) ∧ Cel w2.drew x 0 #[.int .u32 n, .string D] from ⟨s2, Cel.of_blk O2.drew⟩)
  refine wp_region_noPanic ?_
  refine begin_C (fun v => v.cell? ⟨sg, 0, none⟩ = some (.slice oa N cap) ∧ Cel v x 0 #[.int .u32 n, .string D]) 11 (by kernel_rfl) ?_
  refine abs_C _ (fun b hb => ?_)
  have hsz : b.tmps.size = 40 := by rw [hb]; rfl
  have h0 : b.eval (.tmp 0) = (.pointer (some ⟨sg, 0, none⟩)) := by rw [hb]; rfl
  have h3 : b.eval (.tmp 3) = .pointer (some ⟨x, 0, none⟩) := by rw [hb]; rfl
  have HB := Lib.hid hb
  have HS2 := Lib.hid (And.intro al2 (And.intro alb2 q2))
  clear hb s2 q2 al2 alb2
  refine take_Y (i := 0) (u := (.pointer (some ⟨sg, 0, none⟩))) rfl (by kernel_rfl) (by kernel_rfl) (by kernel_rfl) (by decide) rfl rfl (fun _ _ _ h => h) HS.out (fun v => run_move rfl (by simp [Act.eval_put_ne, Act.eval_put_same, Act.size_put, hsz, h0, h3]) v) ?_
  refine take_Y (i := 1) (u := (.pointer (some ⟨sg, 0, none⟩))) rfl (by kernel_rfl) (by kernel_rfl) (by kernel_rfl) (by decide) rfl rfl (fun _ _ _ h => h) HS.out (fun v => run_move rfl (by simp [Act.eval_put_ne, Act.eval_put_same, Act.size_put, hsz, h0, h3]) v) ?_
  refine take_Y (i := 2) (u := (.pointer (some ⟨sg, 0, none⟩))) rfl (by kernel_rfl) (by kernel_rfl) (by kernel_rfl) (by decide) rfl rfl (fun _ _ _ h => h) HS.out (fun v => run_nilc rfl (by simp [Act.eval_put_ne, Act.eval_put_same, Act.size_put, hsz, h0, h3])) ?_
  refine take_Y (i := 3) (u := (.pointer (some ⟨sg, 0, none⟩))) rfl (by kernel_rfl) (by kernel_rfl) (by kernel_rfl) (by decide) rfl rfl (fun _ _ _ h => h) HS.out (fun v => run_field (s := (.pointer (some ⟨sg, 0, none⟩))) rfl (by simp [Act.eval_put_ne, Act.eval_put_same, Act.size_put, hsz, h0, h3]) (by kernel_rfl)) ?_
  refine take_C (i := 4) [8] (u := (.slice oa N cap)) rfl (by kernel_rfl) (by kernel_rfl) (by kernel_rfl) (by kernel_rfl) (by kernel_rfl) (by decide) rfl rfl (fun _ _ _ h => h) HS.out (fun v hv => run_load1 (s := (.pointer (some ⟨sg, 0, none⟩))) rfl (by simp [Act.eval_put_ne, Act.eval_put_same, Act.size_put, hsz, h0, h3]) (by have c := hv.1; go_simp)) ?_
  refine take_C (i := 5) [6, 7, 8] (u := (.agg #[.int .u32 n, .string D])) rfl (by kernel_rfl) (by kernel_rfl) (by kernel_rfl) (by kernel_rfl) (by kernel_rfl) (by decide) rfl rfl (fun _ _ _ h => h) HS.out (fun v hv => run_load_at rfl (h := x) (off := 0) (by simp [Act.eval_put_ne, Act.eval_put_same, Act.size_put, hsz, h0, h3]) _ Try.underlying57 rfl (szO _ _) hv.2) ?_
  refine take_Y (i := 6) (u := (.agg #[.int .u32 n, .string D, .int .i64 0])) rfl (by kernel_rfl) (by kernel_rfl) (by kernel_rfl) (by decide) rfl rfl (fun _ _ _ h => h) HS.out (fun v => run_buildv (s := .agg #[.int .u32 n, .string D]) rfl (by simp [Act.eval_put_ne, Act.eval_put_same, Act.size_put, hsz, h0, h3]) (by kernel_rfl)) ?_
  have alI := (Below.refl w2.heap.size w2.drew).alloc (Nat.le_refl _) (.cells #[.int .u32 n, .string D, .int .i64 0] 168)
  have HSI := Lib.hid (show (w2.drew.alloc (.cells #[.int .u32 n, .string D, .int .i64 0] 168)).cell? ⟨sg, 0, none⟩ = some (.slice oa N cap) ∧ Cel (w2.drew.alloc (.cells #[.int .u32 n, .string D, .int .i64 0] 168)) x 0 #[.int .u32 n, .string D] from ⟨(alI.cell (p := ⟨sg, 0, none⟩) (show sg < w2.heap.size by omega)).trans HS.out.1, HS.out.2.alloc _⟩)
  refine val_C (i := 7) (u := .slice (some ⟨w2.drew.heap.size, 0, none⟩) 1 1) (by kernel_rfl) rfl rfl rfl (fun _ => HSI.out) (run_build1 (u := .agg #[.int .u32 n, .string D, .int .i64 0]) rfl (by simp [Act.eval_put_ne, Act.eval_put_same, Act.size_put, hsz, h0, h3]) (by kernel_rfl)) ?_
  have qA : Qo (w2.drew.alloc (.cells #[.int .u32 n, .string D, .int .i64 0] 168)) b0 3 (.slice oa N cap) L.length (cellsG L) := HV.out ▸ (HS2.out.2.2.q.drew.alloc _)
  have srcA : Src Try.prog 3 164 (.slice (some ⟨w2.drew.heap.size, 0, none⟩) 1 1) 1 (sgc ⟨n, D, 0⟩).toList (w2.drew.alloc (.cells #[.int .u32 n, .string D, .int .i64 0] 168)) := Src.ofSlice _ Try.underlying164 _ 1 1 _ rfl (World.news_of_block (Blk.new _ _ _)) (sgc_one _)
  obtain ⟨v8, w8, hr8, q8, grow8, hat8⟩ := qo_append (P := Try.prog) (ty := 164) Try.underlying164 hi hz0 hz1 hz2 rfl qA srcA (by unfold maxLen; rw [HN.out.1]; omega) (by rw [HN.out.1]; omega) (by simp; omega)
  have hv8 : ∃ oa8 cap8, v8 = .slice oa8 (L.length + 1) cap8 := by obtain ⟨x1, x2, x3, _⟩ := q8.shape; exact ⟨x1, x2, x3⟩
  obtain ⟨oa8, cap8, hv8⟩ := hv8
  rw [HN.out.1] at hv8
  have hvb : ∀ k, blkOf (Value.slice oa N cap) = some k → k < x ∧ k ≠ sg := fun k hk => ⟨by have := hlw k (by rw [HV.out]; exact hk); rw [HXX.out] at this; exact this, fun e => HS2.out.2.2.ne (by rw [HV.out, hk, e])⟩
  have B8 : Blk w8 sg 166 #[v] := (grow8.block sg (by simp; omega) (fun e => (hvb sg e.symm).2 rfl)).trans ((show Blk w2.drew sg 166 #[v] from HS2.out.2.2.B).alloc _)
  have X8 : Cel w8 x 0 #[.int .u32 n, .string D] := HSI.out.2.block (grow8.block x (by simp; omega) (fun e => by have := (hvb x e.symm).1; omega)) (by have := grow8.size; simp at this; omega)
  have HS8 := Lib.hid (show w8.cell? ⟨sg, 0, none⟩ = some (.slice oa N cap) ∧ Cel w8 x 0 #[.int .u32 n, .string D] from ⟨(B8.cell 0).trans (congrArg some HV.out), X8⟩)
  refine app_C (i := 8) (v' := (.slice oa8 (N + 1) cap8)) (w' := w8) (by kernel_rfl) rfl rfl rfl rfl (by simp [Act.eval_put_ne, Act.eval_put_same, Act.size_put, hsz, h0, h3]) (by simp [Act.eval_put_ne, Act.eval_put_same, Act.size_put, hsz, h0, h3]) (hv8 ▸ hr8) (fun _ => HS8.out) ?_
  refine take_Y (i := 9) (u := (.pointer (some ⟨sg, 0, none⟩))) rfl (by kernel_rfl) (by kernel_rfl) (by kernel_rfl) (by decide) rfl rfl (fun _ _ _ h => h) HS8.out (fun v => run_nilc rfl (by simp [Act.eval_put_ne, Act.eval_put_same, Act.size_put, hsz, h0, h3])) ?_
  refine take_Y (i := 10) (u := (.pointer (some ⟨sg, 0, none⟩))) rfl (by kernel_rfl) (by kernel_rfl) (by kernel_rfl) (by decide) rfl rfl (fun _ _ _ h => h) HS8.out (fun v => run_field (s := (.pointer (some ⟨sg, 0, none⟩))) rfl (by simp [Act.eval_put_ne, Act.eval_put_same, Act.size_put, hsz, h0, h3]) (by kernel_rfl)) ?_
  have c8 := HS8.out.1
  have f8 : w8.frozen? ⟨sg, 0, none⟩ = false := B8.frozen 0
  refine store_C (i := 11) (p := .pointer (some ⟨sg, 0, none⟩)) (u := (.slice oa8 (N + 1) cap8)) (w' := (w8.setCell ⟨sg, 0, none⟩ (.slice oa8 (N + 1) cap8))) (by kernel_rfl) rfl rfl rfl rfl (by simp [Act.eval_put_ne, Act.eval_put_same, Act.size_put, hsz, h0, h3]) (by simp [Act.eval_put_ne, Act.eval_put_same, Act.size_put, hsz, h0, h3]) (fun h => absurd rfl h) (by go_simp) ?_
  have hne8 : blkOf v8 ≠ some sg := by
    intro e
    rcases hat8 with h | h | h
    · exact (hvb sg (h ▸ e)).2 rfl
    · rw [h] at e
      simp at e
      omega
    · rw [h] at e
      cases e
  have q9 : Qs b0 sg v8 (L ++ [⟨n, D, 0⟩]) (w8.setCell ⟨sg, 0, none⟩ (.slice oa8 (N + 1) cap8)) := ⟨by rw [hv8]; exact B8.set_ 0 _, by have := q8.far (p := ⟨sg, 0, none⟩) hne8 (.slice oa8 (N + 1) cap8); rw [List.length_append, cellsG_append]; exact this, hne8, hg⟩
  have hsz9 : w2.heap.size ≤ (w8.setCell ⟨sg, 0, none⟩ (.slice oa8 (N + 1) cap8)).heap.size := by have := grow8.size; simp [World.setCell] at this ⊢; omega
  have fr9 : ∀ k, k < x → k ≠ sg → blkOf v ≠ some k → (w8.setCell ⟨sg, 0, none⟩ (.slice oa8 (N + 1) cap8)).heap[k]? = w.heap[k]? := fun k hk hks hkv => by
    rw [Below.heap_setCell w8 ⟨sg, 0, none⟩ _ k hks]
    exact (grow8.block k (by simp; omega) (fun e => hkv (by rw [HV.out]; exact e.symm))).trans ((alI.block k (by show k < w2.heap.size; omega)).trans (HS2.out.1.block k (by rw [HXX.out]; exact hk)))
  have bel9 : Below b0 w (w8.setCell ⟨sg, 0, none⟩ (.slice oa8 (N + 1) cap8)) := (((HS2.out.2.1.drew).alloc (by show b0 ≤ w2.heap.size; omega) (.cells #[.int .u32 n, .string D, .int .i64 0] 168)).grown grow8 (by simp; omega) (fun k hk => (qA.lt hk).1)).setCell (p := ⟨sg, 0, none⟩) hg _
  have HR := Lib.hid (And.intro q9 (And.intro fr9 (And.intro hsz9 bel9)))
  have HAT := Lib.hid hat8
  refine done_C (by kernel_rfl) ?_ _
  refine NoPanic.normal ?_
  rw [HB.out]
  simp only [Act.put, List.setIfInBounds_toArray, List.set_cons_zero, List.set_cons_succ]
  clear HB HS HS2 HSI HS8 c8 f8 q9 fr9 bel9 q8 grow8 hat8 B8 X8 alI qA srcA hsz h0 h3 hsz9 hr8
  go_wp2_with fail
  go_ret
  refine ⟨rfl, ⟨_, HR.out.1, fun k hk => ?_⟩, by rw [HXX.out]; exact HR.out.2.1, by rw [HXX.out]; have := HR.out.2.2.1; omega, HR.out.2.2.2⟩
  rcases HAT.out with e | e | e
  · exact .inl (by rw [HV.out, ← e]; exact hk)
  · rw [e] at hk
    simp at hk
    exact .inr (by rw [HXX.out]; omega)
  · rw [e] at hk
    cases hk
end Go.Proofs.Ythddacgdmngfhaa.fil
