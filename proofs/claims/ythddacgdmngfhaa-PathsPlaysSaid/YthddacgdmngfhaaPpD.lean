/- Layer 15: a path added; which paths stay (gen-ppd.py wrote this). -/
import Derived.Test.YthddacgdmngfhaaPpC
import Derived.Test.YthddacgdmngfhaaKitDq
namespace Go.Proofs.Ythddacgdmngfhaa.pat
open Go.Sort (grow)
open Go.ChangeShapes Go.WideShapes Go.ChangeAt Go.RowKit kit
set_option maxRecDepth 100000

theorem call_C {P : Program} {ops : Array Oper} {Q : Exit → Act → World → Prop} {S : World → Prop} {c : Nat} {i : Nat} {o : Oper} {d fuel : Nat} {L : Array Bool} {a : Act} {w : World} (hr : Region.ready .any ops L = [i]) (hi : ops[i]? = some o) (hg : o.guard = none) (hd : o.dst = some d) (f : FuncId) (fn : Func) (xs : Array Operand) (ts : Array TypeId) (hop : o.op = .call { callee := .value (.func f), args := xs, argTypes := ts })
    (hf : P.funcs[f]? = some fn) (hn : (fn.name == "runtime.NumGoroutine") = false) (hb : fn.body.isNone = false) (vs : Array Value) (hx : xs.map a.eval = vs) {R : Ending → World → Prop} (hc : Calls P f vs w R)
    (h : ∀ e w', R e w' → ∃ v, e = .returned v ∧ (i ≠ c → S w') ∧ wpAnyC P .any ops Q S c fuel (L.setIfInBounds i true) (a.put (some d) v) w') : wpAnyC P .any ops Q S c (fuel + 1) L a w :=
  one_C hr hi hg fun K hK => by
    have := step_call2 (ops := ops) (E := True) hg f fn xs ts hop hf hn hb vs hx hc (K := K) (Q := Q) (fun e w' hR => by
      obtain ⟨v, he, h1, h2⟩ := h e w' hR
      exact ⟨v, he, by rw [hd]; exact hK _ _ h1 h2⟩)
    rwa [if_pos (by simp [Region.wanted, hg])] at this
section
variable {b0 g f : Nat} {L : List Px} {w w' : World}
theorem add_old {v0 : Value} (h : Pw b0 g L f v0 w) (hl : L.length ≤ 8) (a b : Int) (hi : 0 ≤ idx (fun x => decide (x.a = a) && decide (x.b = b)) L) : Calls Try.prog 68 #[.pointer (some ⟨g, 0, none⟩), .int .u32 a, .int .u32 b] w fun e w' => e = .returned (.int .i64 (idx (fun x => decide (x.a = a) && decide (x.b = b)) L)) ∧ Below w.heap.size w w' := by
  obtain ⟨i, hii⟩ : ∃ i, idx (fun x => decide (x.a = a) && decide (x.b = b)) L = i := ⟨_, rfl⟩
  have hf := find_g h (by omega) a b
  rw [hii] at hi hf ⊢
  go_enter Try.func68, Try.ntmps68
  go_wp2_with fail
  refine hf.mono ?_
  rintro e w1 ⟨rfl, hb⟩
  go_wp2_with fail
  go_ret
  exact ⟨rfl, hb⟩
theorem add_full {v0 : Value} (h : Pw b0 g L f v0 w) (hl : L.length = 8) (a b : Int) (hi : idx (fun x => decide (x.a = a) && decide (x.b = b)) L = -1) : Calls Try.prog 68 #[.pointer (some ⟨g, 0, none⟩), .int .u32 a, .int .u32 b] w fun e w' => e = .returned (.int .i64 (-1)) ∧ Below w.heap.size w w' := by
  have hf := find_g h (by omega) a b
  rw [hi] at hf
  obtain ⟨oa, cap, hv, _, _⟩ := h.q.shape
  subst hv
  go_enter Try.func68, Try.ntmps68
  go_wp2_with fail
  refine hf.mono ?_
  rintro e w1 ⟨rfl, hb⟩
  have c0 : w1.cell? ⟨g, 0, none⟩ = some (.slice oa L.length cap) := (h.below hb (Nat.le_refl _)).B.cell 0
  have h8 : (8 : Int) ≤ (L.length : Int) := by omega
  go_wp2_with fail
  go_ret
  exact ⟨rfl, hb⟩
set_option maxHeartbeats 4000000 in
theorem add_new {v0 : Value} (h : Pw b0 g L f v0 w) (hb0 : b0 ≤ w.heap.size) (hl : L.length < 8) (a b : Int) (hi : idx (fun x => decide (x.a = a) && decide (x.b = b)) L = -1) : Calls Try.prog 68 #[.pointer (some ⟨g, 0, none⟩), .int .u32 a, .int .u32 b] w fun e w' => e = .returned (.int .i64 (L.length : Nat)) ∧ (∃ v', Pw b0 g (L ++ [(⟨a, b, 0⟩ : Px)]) f v' w' ∧ ∀ i, blkOf v' = some i → blkOf v0 = some i ∨ w.heap.size ≤ i) ∧ Below b0 w w' ∧ Fr g v0 w w' := by
  obtain ⟨i0, hi0, hz0, hz1, hz2⟩ := info_parts infoP
  have hf := find_g h (by omega) a b
  rw [hi] at hf
  obtain ⟨oa, cap, hv, _, _⟩ := h.q.shape
  subst hv
  go_enter Try.func68, Try.ntmps68
  go_wp2_with fail
  refine hf.mono ?_
  rintro e w1 ⟨rfl, hb⟩
  have h1 := h.below hb (Nat.le_refl _)
  have c0 : w1.cell? ⟨g, 0, none⟩ = some (.slice oa L.length cap) := h1.B.cell 0
  have h8 : ¬ (8 : Int) ≤ (L.length : Int) := by omega
  have hgl := h.B.lt
  clear hf
  go_upto_region 6 with fail
  refine wp_region_noPanic ?_
  have hP := h1.drew
  have HS : w1.drew.cell? ⟨g, 0, none⟩ = some (.slice oa L.length cap) := hP.B.cell 0
  refine begin_C (fun v => v.cell? ⟨g, 0, none⟩ = some (.slice oa L.length cap)) 12 (by kernel_rfl) ?_
  refine abs_C _ (fun ac hac => ?_)
  have hsz : ac.tmps.size = 43 := by rw [hac]; rfl
  have e0 : ac.eval (.tmp 0) = .pointer (some ⟨g, 0, none⟩) := by rw [hac]; rfl
  have e1 : ac.eval (.tmp 1) = .int .u32 a := by rw [hac]; rfl
  have e2 : ac.eval (.tmp 2) = .int .u32 b := by rw [hac]; rfl
  have HB := Lib.hid hac
  clear hac
  have EV := And.intro @Act.eval_put_ne (And.intro @Act.eval_put_same (And.intro @Act.size_put (And.intro hsz (And.intro e0 (And.intro e1 e2)))))
  refine take_Y (i := 0) (u := .pointer (some ⟨g, 0, none⟩)) rfl (by kernel_rfl) (by kernel_rfl) (by kernel_rfl) (by decide) rfl rfl (fun _ _ _ h => h) HS (fun v => run_move rfl (by simp [EV]) v) ?_
  refine take_Y (i := 1) (u := .pointer (some ⟨g, 0, none⟩)) rfl (by kernel_rfl) (by kernel_rfl) (by kernel_rfl) (by decide) rfl rfl (fun _ _ _ h => h) HS (fun v => run_move rfl (by simp [EV]) v) ?_
  refine take_Y (i := 2) (u := .pointer (some ⟨g, 0, none⟩)) rfl (by kernel_rfl) (by kernel_rfl) (by kernel_rfl) (by decide) rfl rfl (fun _ _ _ h => h) HS (fun v => run_nilc rfl (by simp [EV])) ?_
  refine take_Y (i := 3) (u := .pointer (some ⟨g, 0, none⟩)) rfl (by kernel_rfl) (by kernel_rfl) (by kernel_rfl) (by decide) rfl rfl (fun _ _ _ h => h) HS (fun v => run_field (s := .pointer (some ⟨g, 0, none⟩)) rfl (by simp [EV]) (by kernel_rfl)) ?_
  refine take_C (i := 4) [9] (u := .slice oa L.length cap) rfl (by kernel_rfl) (by kernel_rfl) (by kernel_rfl) (by kernel_rfl) (by kernel_rfl) (by decide) rfl rfl (fun _ _ _ h => h) HS (fun v hv => run_load1 (s := .pointer (some ⟨g, 0, none⟩)) rfl (by simp [EV]) (by have c : v.cell? ⟨g, 0, none⟩ = some (.slice oa L.length cap) := hv; go_simp)) ?_
  refine take_Y (i := 5) (u := .int .u32 a) rfl (by kernel_rfl) (by kernel_rfl) (by kernel_rfl) (by decide) rfl rfl (fun _ _ _ h => h) HS (fun v => run_move rfl (by simp [EV]) v) ?_
  refine take_Y (i := 6) (u := .int .u32 b) rfl (by kernel_rfl) (by kernel_rfl) (by kernel_rfl) (by decide) rfl rfl (fun _ _ _ h => h) HS (fun v => run_move rfl (by simp [EV]) v) ?_
  refine call_C (i := 7) (by kernel_rfl) rfl rfl rfl 65 Try.f65 _ _ rfl Try.func65 (by kernel_rfl) (by kernel_rfl) #[.int .u32 a, .int .u32 b] (by simp [EV]) (new_any a b w1.drew) ?_
  rintro e w3 ⟨rfl, hb3⟩
  have h3 := hP.below hb3 (Nat.le_refl _)
  refine ⟨_, rfl, fun _ => h3.B.cell 0, ?_⟩
  have h4 := h3.alloc (.cells (pth a b 0) 113)
  have I4 := src_item (P := Try.prog) (SL := 115) (sz := 15) Try.underlying115 (Blk.new w3 113 (pth a b 0)) (px_one ⟨a, b, 0⟩) rfl
  have al4 := (Below.refl w3.heap.size w3).alloc (Nat.le_refl _) (.cells (pth a b 0) 113)
  have b3 : Below w.heap.size w w3 := hb.drew.trans (hb3.mono hb.size)
  have b4 : Below w.heap.size w (w3.alloc (.cells (pth a b 0) 113)) := b3.trans (al4.mono b3.size)
  refine val_C (i := 8) (u := .slice (some ⟨w3.heap.size, 0, none⟩) 1 1) (w' := w3.alloc (.cells (pth a b 0) 113)) (by kernel_rfl) rfl rfl rfl (fun _ => h4.B.cell 0) (run_build1 (u := .agg (pth a b 0)) rfl (by simp [EV]) (by kernel_rfl)) ?_
  obtain ⟨w4, hw4⟩ : ∃ w4, w3.alloc (.cells (pth a b 0) 113) = w4 := ⟨_, rfl⟩
  rw [hw4] at h4 I4 b4 ⊢
  clear hw4 al4 h3
  obtain ⟨v', w5, hr, q5, gr, ha⟩ := qo_append (P := Try.prog) (t := 115) (ty := 115) Try.underlying115 hi0 hz0 hz1 hz2 rfl h4.q I4 (by unfold maxLen; omega) (by omega) (by have := b4.size; omega)
  have g4 := h4.B.lt
  have hg5 : Blk w5 g 214 #[.slice oa L.length cap, .int .i64 (f : Nat)] := (gr.block g g4 (fun e => h4.hn e.symm)).trans h4.B
  have hv5 : blkOf v' ≠ some g := by
    rcases ha with e | e | e
    · rw [e]; exact h4.hn
    · rw [e]; intro q; cases q; omega
    · rw [e]; intro q; cases q
  have hnv : ∀ i, blkOf v' = some i → blkOf (.slice oa L.length cap) = some i ∨ w.heap.size ≤ i := fun i hi => by
    rcases ha with e | e | e
    · exact .inl (e ▸ hi)
    · rw [e] at hi; cases hi; exact .inr b4.size
    · rw [e] at hi; cases hi
  have q5' : Qo w5 b0 15 v' (L ++ [(⟨a, b, 0⟩ : Px)]).length (cellsX (L ++ [(⟨a, b, 0⟩ : Px)])) := by
    rw [cellsX_append, List.length_append]
    exact q5
  have b5 : Below b0 w w5 := (b4.mono hb0).grown gr (by have := b4.size; omega) (fun k hk => (h4.q.lt hk).1)
  have hS5 : w5.cell? ⟨g, 0, none⟩ = some (.slice oa L.length cap) := hg5.cell 0
  have hF5 : w5.frozen? ⟨g, 0, none⟩ = false := hg5.frozen 0
  refine app_C (i := 9) (by kernel_rfl) rfl rfl rfl rfl (by simp [EV]) (by simp [EV]) hr (fun _ => hS5) ?_
  refine val_C (i := 10) (u := .pointer (some ⟨g, 0, none⟩)) (by kernel_rfl) rfl rfl rfl (fun _ => hS5) (run_nilc rfl (by simp [EV])) ?_
  refine val_C (i := 11) (u := .pointer (some ⟨g, 0, none⟩)) (by kernel_rfl) rfl rfl rfl (fun _ => hS5) (run_field (s := .pointer (some ⟨g, 0, none⟩)) rfl (by simp [EV]) (by kernel_rfl)) ?_
  obtain ⟨o5, c5, hv', _, _⟩ := q5'.shape
  subst hv'
  refine store_C (i := 12) (p := .pointer (some ⟨g, 0, none⟩)) (u := .slice o5 (L ++ [(⟨a, b, 0⟩ : Px)]).length c5) (w' := w5.setCell ⟨g, 0, none⟩ (.slice o5 (L ++ [(⟨a, b, 0⟩ : Px)]).length c5)) (by kernel_rfl) rfl rfl rfl rfl (by simp [EV]) (by simp [EV]) (fun h => absurd rfl h) (by go_simp) ?_
  refine done_C (by kernel_rfl) ?_ _
  refine NoPanic.normal ?_
  rw [HB.out]
  simp only [Act.put, List.setIfInBounds_toArray, List.set_cons_zero, List.set_cons_succ]
  have P6 : Pw b0 g (L ++ [(⟨a, b, 0⟩ : Px)]) f (.slice o5 (L ++ [(⟨a, b, 0⟩ : Px)]).length c5) (w5.setCell ⟨g, 0, none⟩ (.slice o5 (L ++ [(⟨a, b, 0⟩ : Px)]).length c5)) := ⟨hg5.set_ 0 _, q5'.far (p := ⟨g, 0, none⟩) hv5 _, h.hg, hv5⟩
  have b6 := b5.setCell (p := ⟨g, 0, none⟩) h.hg (.slice o5 (L ++ [(⟨a, b, 0⟩ : Px)]).length c5)
  have F6 : Fr g (.slice oa L.length cap) w (w5.setCell ⟨g, 0, none⟩ (.slice o5 (L ++ [(⟨a, b, 0⟩ : Px)]).length c5)) := ⟨b6.size, fun i hi h1 h2 => (Below.heap_setCell w5 ⟨g, 0, none⟩ _ i h1).trans ((gr.block i (by have := b4.size; omega) (fun e => h2 e.symm)).trans (b4.block i hi))⟩
  have c6 : (w5.setCell ⟨g, 0, none⟩ (.slice o5 (L ++ [(⟨a, b, 0⟩ : Px)]).length c5)).cell? ⟨g, 0, none⟩ = some (.slice o5 (L ++ [(⟨a, b, 0⟩ : Px)]).length c5) := P6.B.cell 0
  have HE := Lib.hid (And.intro P6 (And.intro b6 F6))
  have hll : (L ++ [(⟨a, b, 0⟩ : Px)]).length = L.length + 1 := by simp
  rw [hll] at c6 ⊢
  clear HB HS hP h1 h4 I4 b3 b4 q5 gr ha g4 hg5 hv5 q5' b5 hS5 hF5 P6 b6 F6 EV e0 e1 e2 hsz hb hb3 c0 h hr
  have hHE := HE.out
  rw [hll] at hHE hnv
  have HNV := Lib.hid hnv
  clear hnv
  have HE2 := Lib.hid hHE
  clear HE hHE hll
  obtain ⟨w6, hw6⟩ : ∃ w6, w5.setCell ⟨g, 0, none⟩ (.slice o5 (L.length + 1) c5) = w6 := ⟨_, rfl⟩
  rw [hw6] at c6 HE2
  try rw [hw6]
  clear hw6
  go_wp2_with fail
  go_ret
  exact ⟨ret_int (by omega), ⟨_, HE2.out.1, HNV.out⟩, HE2.out.2.1, HE2.out.2.2⟩
end
end Go.Proofs.Ythddacgdmngfhaa.pat
