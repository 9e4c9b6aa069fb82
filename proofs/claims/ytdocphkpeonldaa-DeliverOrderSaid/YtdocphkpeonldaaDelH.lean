/- Layer 18: one stream: made, a message put, a message read. -/
import Derived.Test.YtdocphkpeonldaaDelG
import Derived.Deep.DeepMust
namespace Go.Proofs.Ytdocphkpeonldaa.del
open Go.Sort (grow)
open Go.ChangeShapes Go.WideShapes Go.ChangeAt Go.RowKit kit
set_option maxRecDepth 100000

set_option maxHeartbeats 1000000 in
theorem grow_one (g b0 : Nat) (r b : Value) (w : World) (hb : b0 ≤ g) (B : Blk w g 200 #[.slice none 0 0, r, b]) :
    Calls Try.prog 116 #[.pointer (some ⟨g, 0, none⟩), .int .i64 1] w fun e w' => e = .returned (.tuple #[]) ∧ (∃ h cap m, Blk w' g 200 #[.slice (some ⟨h, 0, none⟩) 1 cap, r, b] ∧ Cel w' h 0 (st 0 m) ∧ MapB w' m #[] 0 ∧ 1 ≤ cap ∧ cap ≤ maxLen ∧ w.heap.size ≤ h ∧ w.heap.size ≤ m ∧ m ≠ h) ∧ Below b0 w w' := by
  obtain ⟨i0, hi, hz0, hz1, hz2⟩ := info_parts infoS
  have hmk : ∀ w, (Instr.makeMap 203 none).run Try.prog w = .ok (.map (some w.heap.size)) (w.alloc (.map #[] 0)) := fun w => rfl
  have c0 : w.cell? ⟨g, 0, none⟩ = some (.slice none 0 0) := B.cell 0
  have hg := B.lt
  go_enter Try.func116, Try.ntmps116
  go_wp2
  refine wp_loop_rounds 2 ?_
  have own0 : w.ownsRow b0 205 2 (.slice none 0 0) 0 [] := World.ownsRow_nil _ _ _ _
  obtain ⟨l, hl⟩ : ∃ l, Value.slice none 0 0 = l := ⟨_, rfl⟩
  rw [hl] at own0 B c0
  have HL := Lib.hid hl
  clear hl
  have BB0 := (B.alloc (.map #[] 0)).alloc (.cells (st 0 w.heap.size) 205)
  have V0 := Blk.new (w.alloc (.map #[] 0)) 205 (st 0 w.heap.size)
  have hs0 : (w.alloc (.map #[] 0)).heap.size = w.heap.size + 1 := by simp
  rw [hs0] at V0
  have HN0 := Lib.hid (World.news_of_block V0)
  have HO0 := Lib.hid (own_all own0 (((Below.refl w.heap.size w).alloc (Nat.le_refl _) (.map #[] 0)).alloc (by simp) (.cells (st 0 w.heap.size) 205)))
  have HS0 := Lib.hid (show ((w.alloc (.map #[] 0)).alloc (.cells (st 0 w.heap.size) 205)).heap.size = w.heap.size + 1 + 1 by simp)
  have HB0 := Lib.hid (show b0 ≤ ((w.alloc (.map #[] 0)).alloc (.cells (st 0 w.heap.size) 205)).heap.size by simp; omega)
  clear V0 own0 hs0
  rw [rounds_succ]
  go_wp2_with (at_builtin; refine wpList_append_lies _ rfl _ _ 197 rfl b0 205 i0 (.agg #[.int .u16 0, .map none]) 2 16 Try.underlying197 hi hz0 hz1 hz2 rfl (by decide) l 0 [] rfl HO0.out ⟨w.heap.size + 1, 0, none⟩ 1 1 (st 0 w.heap.size).toList rfl rfl HN0.out (by intro u hu; simp [st] at hu; rcases hu with rfl | rfl <;> rfl) (by omega) (by unfold maxLen; omega) (by omega) HB0.out (w.heap.size + 1 + 1) HS0.out ?_; intro h0 cap0 x0 hown0 hgrow0 hat0 hlt0; have B80 : Blk x0 g 200 #[l, r, b] := (hgrow0.block g BB0.lt (by rw [← HL.out]; simp [Value.ownBlock])).trans BB0; have c80 : x0.cell? ⟨g, 0, none⟩ = some l := B80.cell 0; have f80 : x0.frozen? ⟨g, 0, none⟩ = false := B80.frozen 0)
  have hh0 : h0 = w.heap.size + 1 + 1 := hat0.resolve_left (by rw [← HL.out]; simp [Value.ownBlock])
  have hne0 : h0 ≠ g := by omega
  have MM0 : MapB x0 w.heap.size #[] 0 := ((MapB.new w).alloc (.cells (st 0 w.heap.size) 205)).block (hgrow0.block w.heap.size (by simp; omega) (by rw [← HL.out]; simp [Value.ownBlock]))
  have bel8 : Below b0 w x0 := (((Below.refl b0 w).alloc (by omega) (.map #[] 0)).alloc (by simp; omega) (.cells (st 0 w.heap.size) 205)).grown hgrow0 HB0.out (fun k hk => by rw [← HL.out] at hk; simp [Value.ownBlock] at hk)
  have M9 : MapB (x0.setCell ⟨g, 0, none⟩ (.slice (some ⟨h0, 0, none⟩) 1 cap0)) w.heap.size #[] 0 := MM0.far (by show w.heap.size ≠ g; omega) _
  have B9 : Blk (x0.setCell ⟨g, 0, none⟩ (.slice (some ⟨h0, 0, none⟩) 1 cap0)) g 200 #[.slice (some ⟨h0, 0, none⟩) 1 cap0, r, b] := B80.set_ 0 _
  have own9 : (x0.setCell ⟨g, 0, none⟩ (.slice (some ⟨h0, 0, none⟩) 1 cap0)).ownsRow b0 205 2 (.slice (some ⟨h0, 0, none⟩) 1 cap0) 1 (st 0 w.heap.size).toList := own_other hown0 (fun k hk => Below.heap_setCell _ _ _ _ (by simp [Value.ownBlock] at hk; show k ≠ g; omega))
  have bel9 : Below b0 w (x0.setCell ⟨g, 0, none⟩ (.slice (some ⟨h0, 0, none⟩) 1 cap0)) := bel8.setCell (p := ⟨g, 0, none⟩) hb _
  have hsz9 : w.heap.size + 1 + 1 < (x0.setCell ⟨g, 0, none⟩ (.slice (some ⟨h0, 0, none⟩) 1 cap0)).heap.size := by simp [World.setCell]; omega
  have hcap0 : 1 ≤ cap0 ∧ cap0 ≤ maxLen := by obtain ⟨_, _, _, q1, q2, _⟩ := own_blk hown0; exact ⟨q1, q2⟩
  have K9 := Cel.of_owns own9
  clear MM0 bel8 B80 c80 f80 hown0 hgrow0 hat0 BB0 HN0 HO0 HS0 HB0 hlt0 c0 B
  generalize x0.setCell ⟨g, 0, none⟩ (.slice (some ⟨h0, 0, none⟩) 1 cap0) = w9 at *
  rw [rounds_succ]
  clear own9
  go_wp2_with fail
  go_end0
  exact ⟨rfl, ⟨h0, cap0, w.heap.size, B9, K9.congr rfl, M9, hcap0.1, hcap0.2, by omega, by omega, by omega⟩, bel9⟩
theorem new_one (w : World) : Calls Try.prog 63 #[.int .i64 1] w fun e w' => e = .returned (.pointer (some ⟨w.heap.size, 0, none⟩)) ∧ (∃ h m, ∀ w2, Below w'.heap.size w' w2 → ∀ cb ob, w2.heap[cb]? = some ob → w'.heap.size ≤ cb → O cb ob w.heap.size w.heap.size h m 0 #[] 0 (.slice none 0 0) w2) ∧ Below w.heap.size w w' := by
  have B := Blk.new w 200 #[.slice none 0 0, .slice none 0 0, .int .i64 0]
  have bel := (Below.refl w.heap.size w).alloc (Nat.le_refl _) (.cells #[.slice none 0 0, .slice none 0 0, .int .i64 0] 200)
  have hs : (w.alloc (.cells #[.slice none 0 0, .slice none 0 0, .int .i64 0] 200)).heap.size = w.heap.size + 1 := by simp
  go_enter Try.func63, Try.ntmps63
  go_wp2_with fail
  generalize w.alloc (.cells #[.slice none 0 0, .slice none 0 0, .int .i64 0] 200) = w1 at *
  refine (grow_one w.heap.size w.heap.size _ _ w1 (Nat.le_refl _) B).mono ?_
  rintro e w2 ⟨rfl, ⟨h, cap, m, B2, C0, M0, hc0, hc1, hh, hm, hmh⟩, bel2⟩
  go_wp2_with fail
  go_ret
  exact ⟨rfl, ⟨h, m, fun w3 hb3 cb ob hG hcb => ⟨⟨cap, B2.below hb3 B2.lt, hc0, hc1⟩, C0.below hb3 C0.lt, M0.below hb3 M0.lt, Nat.le_refl _, by omega, by omega, by omega, by omega, hmh, hG, by have := B2.lt; omega, by have := C0.lt; omega, by have := M0.lt; omega⟩⟩, bel.trans bel2⟩
theorem many_one (g : Nat) (a : Addr) (cap : Nat) (w : World) (c0 : w.cell? ⟨g, 0, none⟩ = some (.slice (some a) 1 cap)) : Calls Try.prog 117 #[.pointer (some ⟨g, 0, none⟩)] w fun e w' => e = .returned (.int .i64 1) ∧ w' = w := by
  go_enter Try.func117, Try.ntmps117
  go_wp2
  go_ret
  exact ⟨rfl, rfl⟩
set_option maxHeartbeats 4000000 in
theorem put_new (cb : Nat) (ob : Obj) (f : Nat → Bool) (h64 : ∀ j, 64 ≤ j → f j = false) (b0 g h m p i : Nat) (hp : p < 64) (hfp : f p = false) (hi64 : i ≤ 64) (hpre : ∀ j, j < i → f j = true) (w : World) (F : Fo cb ob f b0 g h m i w) :
    Calls Try.prog 64 #[.pointer (some ⟨g, 0, none⟩), .agg (ms 0 p false 0 ⟨#[]⟩)] w fun e w' => e = .returned (.bool true) ∧ (∃ i', i' ≤ 64 ∧ (∀ j, j < i' → (if j = p then true else f j) = true) ∧ (if i' = p then true else f i') = false ∧ Fo cb ob (fun k => if k = p then true else f k) b0 g h m i' w') ∧ Below b0 w w' := by
  obtain ⟨rl, es, c, q, hH, own, hne⟩ := F
  have hip : i ≤ p := by
    rcases (by omega : p < i ∨ i ≤ p) with e | e
    · rw [hpre p e] at hfp; cases hfp
    · exact e
  have hSp : (if p < i then false else f p) = false := by rw [if_neg (by omega)]; exact hfp
  have hf := hH.hasnt hSp
  have hgl : g < w.heap.size := by obtain ⟨cap, B, _⟩ := q.B; exact B.lt
  have X1 := Blk.new w 128 (ms 0 p false 0 ⟨#[]⟩)
  have bel1 := (Below.refl b0 w).alloc (by have := q.hg; omega) (.cells (ms 0 p false 0 ⟨#[]⟩) 128)
  have bw1 := (Below.refl w.heap.size w).alloc (Nat.le_refl _) (.cells (ms 0 p false 0 ⟨#[]⟩) 128)
  have q1 := q.below ((Below.refl w.heap.size w).alloc (Nat.le_refl _) (.cells (ms 0 p false 0 ⟨#[]⟩) 128)) (Nat.le_refl _)
  have hml := q.M.lt
  have hhl := q.C.lt
  have hs1 : (⟨#[]⟩ : ByteArray).size = 0 := rfl
  have HW := Lib.hid (show ∀ w' : World, (∀ k, k < w.heap.size → k ≠ g → k ≠ m → w'.heap[k]? = w.heap[k]?) → w'.ownsRow b0 128 5 rl i (rws i) from fun w' hw => own_other own (fun k hk => hw k (own_lt own k hk) (hne k hk).1 (hne k hk).2.2.1))
  have HNE := Lib.hid hne
  clear q own hne
  go_enter Try.func64, Try.ntmps64
  go_upto_region 1 with (fail)
  generalize w.alloc (.cells (ms 0 p false 0 ⟨#[]⟩) 128) = w1 at *
  obtain ⟨cap, B1, hc1, hc2⟩ := q1.B
  unfold maxLen at hc2
  have x0 : w1.cell? ⟨w.heap.size, 0, none⟩ = some (.int .i64 0) := X1.cell 0
  have g0 : w1.cell? ⟨g, 0, none⟩ = some (.slice (some ⟨h, 0, none⟩) 1 cap) := B1.cell 0
  go_quiet ((exact Calls.quiet_of_same (many_one g ⟨h, 0, none⟩ cap _ g0)))
  have X2 : Blk (w1.drewN nq) w.heap.size 128 (ms 0 p false 0 ⟨#[]⟩) := X1
  have q2 : O cb ob b0 g h m i es c rl (w1.drewN nq) := q1.drewN nq
  have B2 : Blk (w1.drewN nq) g 200 #[.slice (some ⟨h, 0, none⟩) 1 cap, rl, .int .i64 0] := B1
  have bel2 : Below b0 w (w1.drewN nq) := ⟨bel1.os, bel1.tape, bel1.output, bel1.size, bel1.block⟩
  have kp1 : ∀ k, k < w.heap.size → (w1.drewN nq).heap[k]? = w.heap[k]? := fun k hk => bw1.block k hk
  have hsz2 : w.heap.size ≤ (w1.drewN nq).heap.size := bw1.size
  clear X1 q1 B1 bel1 x0 g0 bw1
  generalize w1.drewN nq = w2 at *
  have x0 : w2.cell? ⟨w.heap.size, 0, none⟩ = some (.int .i64 0) := X2.cell 0
  have x1 : w2.cell? ⟨w.heap.size, 1, none⟩ = some (.int .i64 p) := X2.cell 1
  have x2 : w2.cell? ⟨w.heap.size, 2, none⟩ = some (.bool false) := X2.cell 2
  have x3 : w2.cell? ⟨w.heap.size, 3, none⟩ = some (.int .u32 0) := X2.cell 3
  have x4 : w2.cell? ⟨w.heap.size, 4, none⟩ = some (.string ⟨#[]⟩) := X2.cell 4
  have g0 : w2.cell? ⟨g, 0, none⟩ = some (.slice (some ⟨h, 0, none⟩) 1 cap) := B2.cell 0
  go_upto_region 5 with (fail)
  go_cut [36] (fun s36 wx => s36 = .bool false ∧ MapB wx m (es.push ⟨.int .u16 p, .agg (ms 0 p false 0 ⟨#[]⟩), c⟩) (c + 1) ∧ Only m w2.drew wx ∧ Below b0 w2.drew wx)
  case first =>
    have hS := fun w' (C : Cel w' h 0 (st i m)) (M : MapB w' m es c) => stput_new h m c p i hp hip es hf w' C M q2.ne3
    have hbm := q2.hm
    go_region_law ((refine step_call2 (by rfl) 118 Try.f118 _ _ (by rfl) Try.func118 (by kernel_rfl) (by kernel_rfl) #[.pointer (some ⟨h, 0, none⟩), .agg (ms 0 p false 0 ⟨#[]⟩)] (by simp [Act.eval, Act.put, ms]) (hS _ q2.C.drew q2.M.drew) ?_; rintro e w3 ⟨rfl, M3, O3, bl3⟩; refine ⟨_, rfl, ?_⟩))
    all_goals
      go_wp2_with fail
      go_meet
      exact ⟨rfl, M3, O3, bl3 b0 hbm⟩
  case rest =>
  obtain ⟨rfl, M3, O3, bl3⟩ := hcut
  have q3 := q2.drew.only O3 M3
  have X3 : Blk wc w.heap.size 128 (ms 0 p false 0 ⟨#[]⟩) := O3.blk X2.drew (by omega)
  have bel3 := bel2.drew.trans bl3
  have kp3 : ∀ k, k < w.heap.size → k ≠ g → k ≠ m → wc.heap[k]? = w.heap[k]? := fun k hk hg hm => (O3.block k (Nat.lt_of_lt_of_le hk hsz2) hm).trans (kp1 k hk)
  clear X2 q2 B2 bel2 x0 x1 x2 x3 x4 g0 M3 O3 bl3
  obtain ⟨cap3, B3, hc13, hc23⟩ := q3.B
  have g2 : wc.cell? ⟨g, 2, none⟩ = some (.int .i64 0) := B3.cell 2
  have f2 : wc.frozen? ⟨g, 2, none⟩ = false := B3.frozen 2
  have x4 : wc.cell? ⟨w.heap.size, 4, none⟩ = some (.string ⟨#[]⟩) := X3.cell 4
  go_upto_region 7 with (fail)
  go_region
  have q4 : O cb ob b0 g h m i (es.push ⟨.int .u16 p, .agg (ms 0 p false 0 ⟨#[]⟩), c⟩) (c + 1) rl (wc.setCell ⟨g, 2, none⟩ (.int .i64 0)).drew :=
    O.drew ⟨⟨cap3, B3.set_ 2 _, hc13, hc23⟩, q3.C.far (p := ⟨g, 2, none⟩) q3.ne1 _, q3.M.far (p := ⟨g, 2, none⟩) q3.ne2 _, q3.hg, q3.hh, q3.hm, q3.ne1, q3.ne2, q3.ne3, (Below.heap_setCell wc ⟨g, 2, none⟩ _ cb q3.ne4).trans q3.G, q3.ne4, q3.ne5, q3.ne6⟩
  have X4 : Blk (wc.setCell ⟨g, 2, none⟩ (.int .i64 0)).drew w.heap.size 128 (ms 0 p false 0 ⟨#[]⟩) := (X3.far (p := ⟨g, 2, none⟩) (by show w.heap.size ≠ g; omega) _).drew
  have bel4 : Below b0 w (wc.setCell ⟨g, 2, none⟩ (.int .i64 0)).drew := (bel3.setCell (p := ⟨g, 2, none⟩) q3.hg _).drew
  have bel4' : ∀ k, k < w.heap.size → k ≠ g → k ≠ m → (wc.setCell ⟨g, 2, none⟩ (.int .i64 0)).drew.heap[k]? = w.heap[k]? := fun k hk hg hm => (Below.heap_setCell wc ⟨g, 2, none⟩ (.int .i64 0) k hg).trans (kp3 k hk hg hm)
  clear q3 X3 bel3 B3 g2 f2 x4 kp3 kp1 hsz2
  generalize (wc.setCell ⟨g, 2, none⟩ (.int .i64 0)).drew = w4 at *
  obtain ⟨cap4, B4, hc14, hc24⟩ := q4.B
  unfold maxLen at hc24
  have g0 : w4.cell? ⟨g, 0, none⟩ = some (.slice (some ⟨h, 0, none⟩) 1 cap4) := B4.cell 0
  have x0 : w4.cell? ⟨w.heap.size, 0, none⟩ = some (.int .i64 0) := X4.cell 0
  go_upto_region 8 with (fail)
  have own4 : w4.ownsRow b0 128 5 rl i (rws i) := HW.out w4 bel4'
  have FF : Fo cb ob (fun k => if k = p then true else f k) b0 g h m i w4.drew := by
    refine ⟨rl, _, _, q4.drew, (hH.push hp hSp c).congr (fun k => ?_), own4, HNE.out⟩
    show (if k = p then true else if k < i then false else f k) = (if k < i then false else if k = p then true else f k)
    by_cases e : k = p
    · rw [if_pos e, if_neg (by omega), if_pos e]
    · rw [if_neg e, if_neg e]
  have hFol := follow_any cb ob (fun k => if k = p then true else f k) (fun k hk => by rw [if_neg (by omega)]; exact h64 k hk) b0 g h m i hi64 (fun k hk => by rw [if_neg (by omega)]; exact hpre k hk) w4.drew FF
  go_cut [55] (fun _ wx => (∃ i', i' ≤ 64 ∧ (∀ j, j < i' → (if j = p then true else f j) = true) ∧ (if i' = p then true else f i') = false ∧ Fo cb ob (fun k => if k = p then true else f k) b0 g h m i' wx) ∧ Below b0 w4.drew wx)
  case first =>
    go_region_law ((refine step_call2 (by rfl) 119 Try.f119 _ _ (by rfl) Try.func119 (by kernel_rfl) (by kernel_rfl) #[.pointer (some ⟨g, 0, none⟩), .pointer (some ⟨h, 0, none⟩)] (by simp [Act.eval, Act.put]) hFol ?_; rintro e w3 ⟨rfl, hR⟩; refine ⟨_, rfl, ?_⟩))
    all_goals
      go_wp2_with fail
      go_meet
      exact hR
  case rest =>
  go_wp2_with fail
  go_ret
  exact ⟨rfl, hcut.1, bel4.drew.trans hcut.2⟩
set_option maxHeartbeats 4000000 in
theorem put_old (cb : Nat) (ob : Obj) (f : Nat → Bool) (b0 g h m p i : Nat) (hp : p < 64) (hfp : f p = true) (hi64 : i ≤ 64) (w : World) (F : Fo cb ob f b0 g h m i w) :
    Calls Try.prog 64 #[.pointer (some ⟨g, 0, none⟩), .agg (ms 0 p false 0 ⟨#[]⟩)] w fun e w' => e = .returned (.bool false) ∧ Below w.heap.size w w' := by
  obtain ⟨rl, es, c, q, hH, own, hne⟩ := F
  have hor : (if p < i then false else f p) = true ∨ p < i := by
    by_cases e : p < i
    · exact .inr e
    · exact .inl (by rw [if_neg e]; exact hfp)
  have hgl : g < w.heap.size := by obtain ⟨cap, B, _⟩ := q.B; exact B.lt
  have X1 := Blk.new w 128 (ms 0 p false 0 ⟨#[]⟩)
  have bel1 := (Below.refl w.heap.size w).alloc (Nat.le_refl _) (.cells (ms 0 p false 0 ⟨#[]⟩) 128)
  have q1 := q.below ((Below.refl w.heap.size w).alloc (Nat.le_refl _) (.cells (ms 0 p false 0 ⟨#[]⟩) 128)) (Nat.le_refl _)
  have hml := q.M.lt
  have hhl := q.C.lt
  have hs1 : (⟨#[]⟩ : ByteArray).size = 0 := rfl
  clear q
  go_enter Try.func64, Try.ntmps64
  go_upto_region 1 with (fail)
  generalize w.alloc (.cells (ms 0 p false 0 ⟨#[]⟩) 128) = w1 at *
  obtain ⟨cap, B1, hc1, hc2⟩ := q1.B
  unfold maxLen at hc2
  have x0 : w1.cell? ⟨w.heap.size, 0, none⟩ = some (.int .i64 0) := X1.cell 0
  have g0 : w1.cell? ⟨g, 0, none⟩ = some (.slice (some ⟨h, 0, none⟩) 1 cap) := B1.cell 0
  go_quiet ((exact Calls.quiet_of_same (many_one g ⟨h, 0, none⟩ cap _ g0)))
  have X2 : Blk (w1.drewN nq) w.heap.size 128 (ms 0 p false 0 ⟨#[]⟩) := X1
  have q2 : O cb ob b0 g h m i es c rl (w1.drewN nq) := q1.drewN nq
  have B2 : Blk (w1.drewN nq) g 200 #[.slice (some ⟨h, 0, none⟩) 1 cap, rl, .int .i64 0] := B1
  have bel2 : Below w.heap.size w (w1.drewN nq) := ⟨bel1.os, bel1.tape, bel1.output, bel1.size, bel1.block⟩
  clear X1 q1 B1 bel1 x0 g0
  generalize w1.drewN nq = w2 at *
  have x0 : w2.cell? ⟨w.heap.size, 0, none⟩ = some (.int .i64 0) := X2.cell 0
  have x1 : w2.cell? ⟨w.heap.size, 1, none⟩ = some (.int .i64 p) := X2.cell 1
  have x2 : w2.cell? ⟨w.heap.size, 2, none⟩ = some (.bool false) := X2.cell 2
  have x3 : w2.cell? ⟨w.heap.size, 3, none⟩ = some (.int .u32 0) := X2.cell 3
  have x4 : w2.cell? ⟨w.heap.size, 4, none⟩ = some (.string ⟨#[]⟩) := X2.cell 4
  have g0 : w2.cell? ⟨g, 0, none⟩ = some (.slice (some ⟨h, 0, none⟩) 1 cap) := B2.cell 0
  go_upto_region 5 with (fail)
  go_cut [36] (fun s36 wx => s36 = .bool true ∧ Below w.heap.size w2.drew wx)
  case first =>
    have hS := fun w' (C : Cel w' h 0 (st i m)) (M : MapB w' m es c) => stput_old h m c p i hp hi64 es _ hH hor w' C M
    have hsz : w.heap.size ≤ w2.drew.heap.size := bel2.size
    go_region_law ((refine step_call2 (by rfl) 118 Try.f118 _ _ (by rfl) Try.func118 (by kernel_rfl) (by kernel_rfl) #[.pointer (some ⟨h, 0, none⟩), .agg (ms 0 p false 0 ⟨#[]⟩)] (by simp [Act.eval, Act.put, ms]) (hS _ q2.C.drew q2.M.drew) ?_; rintro e w3 ⟨rfl, bl3⟩; refine ⟨_, rfl, ?_⟩))
    all_goals
      go_wp2_with fail
      go_meet
      exact ⟨rfl, bl3.mono hsz⟩
  case rest =>
  obtain ⟨rfl, bl3⟩ := hcut
  go_wp2_with fail
  go_ret
  exact ⟨rfl, bel2.drew.trans bl3⟩
theorem _root_.Go.Proofs.Ytdocphkpeonldaa.kit.Only.trans_new {g : Nat} {w w' : World} (O : Only g w w') (r : Nat) (hr : w.heap.size ≤ r) : ∀ (o : Nat) (vs : List Value), Only g w (w'.setCells r o vs) := by
  intro o vs
  have h := below_setCells (Below.refl w.heap.size w') hr o vs
  exact ⟨Nat.le_trans O.size h.size, fun k hk hg => (h.block k hk).trans (O.block k hk hg)⟩
set_option maxHeartbeats 4000000 in
theorem read_any (b0 g r j k cp : Nat) (x : Value) (hb : b0 ≤ g) (hr : r ≠ g) (hk : 0 < k) (hkc : k ≤ cp) (hcm : cp ≤ maxLen) (w : World) (B : Blk w g 200 #[x, .slice (some ⟨r, 5 * j, none⟩) k cp, .int .i64 0]) (R : Cel w r (5 * j) #[.int .i64 0, .int .i64 j, .bool false, .int .u32 0, .string ⟨#[]⟩]) :
    Calls Try.prog 65 #[.pointer (some ⟨g, 0, none⟩)] w fun e w' => e = .returned (.tuple #[.agg #[.int .i64 0, .int .i64 j, .bool false, .int .u32 0, .string ⟨#[]⟩], .bool true]) ∧ (∃ oa cp', Blk w' g 200 #[x, .slice oa (k - 1) cp', .int .i64 0] ∧ (0 < k - 1 → oa = some ⟨r, 5 * (j + 1), none⟩ ∧ k - 1 ≤ cp' ∧ cp' ≤ maxLen)) ∧ Only g w w' ∧ Below b0 w w' := by
  have hgl := B.lt
  have hrl := R.lt
  have hx0 : 5 * j + 5 = 5 * (j + 1) := by omega
  have B1 := B.alloc (.cells #[.int .i64 0, .int .i64 0, .bool false, .int .u32 0, .string ⟨#[]⟩] 128)
  have R1 := R.alloc (.cells #[.int .i64 0, .int .i64 0, .bool false, .int .u32 0, .string ⟨#[]⟩] 128)
  have V1 := Blk.new w 128 #[.int .i64 0, .int .i64 0, .bool false, .int .u32 0, .string ⟨#[]⟩]
  have bel1 := (Below.refl b0 w).alloc (by omega) (.cells #[.int .i64 0, .int .i64 0, .bool false, .int .u32 0, .string ⟨#[]⟩] 128)
  have O1 := (Only.refl g w).alloc (.cells #[.int .i64 0, .int .i64 0, .bool false, .int .u32 0, .string ⟨#[]⟩] 128)
  unfold maxLen at hcm
  go_enter Try.func65, Try.ntmps65
  go_upto_region 1 with (fail)
  clear B R
  generalize w.alloc (.cells #[.int .i64 0, .int .i64 0, .bool false, .int .u32 0, .string ⟨#[]⟩] 128) = w1 at *
  have g1 : w1.cell? ⟨g, 1, none⟩ = some (.slice (some ⟨r, 5 * j, none⟩) k cp) := B1.cell 1
  go_wp2_with fail
  refine (ready_of g _ k cp _ g1).mono ?_
  rintro e w1 ⟨rfl, rfl⟩
  have hk0 : ((k : Int) == 0) = false := by simp; omega
  have hk1 : (0 : Int) < k := by omega
  have sz : (Try.prog.info? 128).map (·.size) = some (#[.int .i64 0, .int .i64 j, .bool false, .int .u32 0, .string ⟨#[]⟩] : Array Value).size := szM
  go_upto_region 4 with (refine wpList_load_at rfl 128 _ rfl r (5 * j) rfl #[.int .i64 0, .int .i64 j, .bool false, .int .u32 0, .string ⟨#[]⟩] _ R1 Try.underlying128 rfl sz ?_)
  have B2 := B1.alloc (.cells #[.int .i64 0, .int .i64 j, .bool false, .int .u32 0, .string ⟨#[]⟩] 128)
  have V2 := V1.alloc (.cells #[.int .i64 0, .int .i64 j, .bool false, .int .u32 0, .string ⟨#[]⟩] 128)
  have U2 := Blk.new w1 128 #[.int .i64 0, .int .i64 j, .bool false, .int .u32 0, .string ⟨#[]⟩]
  have bel2 := bel1.alloc (by have := B1.lt; omega) (.cells #[.int .i64 0, .int .i64 j, .bool false, .int .u32 0, .string ⟨#[]⟩] 128)
  have O2 := O1.alloc (.cells #[.int .i64 0, .int .i64 j, .bool false, .int .u32 0, .string ⟨#[]⟩] 128)
  have hs1 : w.heap.size < w1.heap.size := V1.lt
  have hg1 := B1.lt
  clear B1 V1 bel1 g1 R1 O1
  generalize w1.alloc (.cells #[.int .i64 0, .int .i64 j, .bool false, .int .u32 0, .string ⟨#[]⟩] 128) = w2 at *
  have g1 : w2.cell? ⟨g, 1, none⟩ = some (.slice (some ⟨r, 5 * j, none⟩) k cp) := B2.cell 1
  have f1 : w2.frozen? ⟨g, 1, none⟩ = false := B2.frozen 1
  go_cut [] (fun wx => ∃ oa cp', wx = w2.setCell ⟨g, 1, none⟩ (.slice oa (k - 1 : Nat) cp') ∧ (0 < k - 1 → oa = some ⟨r, 5 * (j + 1), none⟩ ∧ k - 1 ≤ cp' ∧ cp' ≤ maxLen))
  case first =>
    go_wp2_with fail
    all_goals
      go_meet
      first
        | exact ⟨_, _, rfl, fun h => ⟨rfl, by omega, by unfold maxLen; omega⟩⟩
        | exact ⟨_, _, rfl, fun h => absurd h (by omega)⟩
  case rest =>
  obtain ⟨oa, cp', hwc, hoa⟩ := hcut
  have B3 : Blk (w2.setCell ⟨g, 1, none⟩ (.slice oa (k - 1 : Nat) cp')) g 200 #[x, .slice oa (k - 1 : Nat) cp', .int .i64 0] := B2.set_ 1 _
  have V3 := V2.far (p := ⟨g, 1, none⟩) (by show w.heap.size ≠ g; omega) (.slice oa (k - 1 : Nat) cp')
  have U3 := U2.far (p := ⟨g, 1, none⟩) (by show w1.heap.size ≠ g; omega) (.slice oa (k - 1 : Nat) cp')
  have O3 := O2.setCell 1 (.slice oa (k - 1 : Nat) cp')
  have bel3 := bel2.setCell (p := ⟨g, 1, none⟩) hb (.slice oa (k - 1 : Nat) cp')
  rw [← hwc] at B3 V3 U3 bel3 O3
  clear B2 V2 U2 bel2 g1 f1 O2 hwc
  have g2 : wc.cell? ⟨g, 2, none⟩ = some (.int .i64 0) := B3.cell 2
  have f2 : wc.frozen? ⟨g, 2, none⟩ = false := B3.frozen 2
  have u4 : wc.cell? ⟨w1.heap.size, 4, none⟩ = some (.string ⟨#[]⟩) := U3.cell 4
  have hs0 : (⟨#[]⟩ : ByteArray).size = 0 := rfl
  go_upto_region 5 with (fail)
  go_region
  have B4 : Blk ((wc.setCell ⟨g, 2, none⟩ (.int .i64 0)).drew) g 200 #[x, .slice oa (k - 1 : Nat) cp', .int .i64 0] := (B3.set_ 2 _).drew
  have V4 := (V3.far (p := ⟨g, 2, none⟩) (by show w.heap.size ≠ g; omega) (.int .i64 0)).drew
  have U4 := (U3.far (p := ⟨g, 2, none⟩) (by show w1.heap.size ≠ g; omega) (.int .i64 0)).drew
  have O4 := (O3.setCell 2 (.int .i64 0)).drew
  have bel4 := (bel3.setCell (p := ⟨g, 2, none⟩) hb (.int .i64 0)).drew
  clear B3 V3 U3 bel3 g2 f2 u4 O3
  generalize (wc.setCell ⟨g, 2, none⟩ (.int .i64 0)).drew = w4 at *
  go_upto_region 6 with (fail)
  have sw : w.heap.size ≠ g := by omega
  go_wp2_with (first | (refine wpList_load_at rfl 128 _ rfl w1.heap.size 0 rfl #[.int .i64 0, .int .i64 j, .bool false, .int .u32 0, .string ⟨#[]⟩] _ (Cel.of_blk U4) Try.underlying128 rfl sz ?_) | (refine wpList_store_at rfl 128 _ _ rfl w.heap.size 0 #[.int .i64 0, .int .i64 j, .bool false, .int .u32 0, .string ⟨#[]⟩] rfl rfl _ (Cel.of_blk V4) sz rfl (by kernel_rfl) ?_))
  have K := (Cel.of_blk V4).setCells_same [.int .i64 0, .int .i64 j, .bool false, .int .u32 0, .string ⟨#[]⟩] rfl
  have BB := blk_setCells B4 (Ne.symm sw) 0 [.int .i64 0, .int .i64 j, .bool false, .int .u32 0, .string ⟨#[]⟩]
  have belE := below_setCells bel4 (show b0 ≤ w.heap.size by omega) 0 [.int .i64 0, .int .i64 j, .bool false, .int .u32 0, .string ⟨#[]⟩]
  have OE : Only g w (w4.setCells w.heap.size 0 [.int .i64 0, .int .i64 j, .bool false, .int .u32 0, .string ⟨#[]⟩]) := O4.trans_new w.heap.size (Nat.le_refl _) 0 _
  exact bodyPost_ret (v := .tuple #[.agg #[.int .i64 0, .int .i64 j, .bool false, .int .u32 0, .string ⟨#[]⟩], .bool true]) (by rw [results_cell_tmp_at rfl _ _ w.heap.size 0 #[.int .i64 0, .int .i64 j, .bool false, .int .u32 0, .string ⟨#[]⟩] _ rfl K Try.underlying128 rfl sz]; rfl) rfl ⟨rfl, ⟨oa, cp', BB, hoa⟩, OE, belE⟩
end Go.Proofs.Ytdocphkpeonldaa.del
