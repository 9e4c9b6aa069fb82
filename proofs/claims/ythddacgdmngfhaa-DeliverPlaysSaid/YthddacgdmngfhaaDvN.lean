/- Layer 18: whatever messages come: the statement's beginning (gen-dvn.py wrote this). -/
import Derived.Test.YthddacgdmngfhaaDvJ
import Derived.Test.YthddacgdmngfhaaKitY
import Derived.Test.YthddacgdmngfhaaKitY
namespace Go.Proofs.Ythddacgdmngfhaa.del
open Go.Sort (grow)
open Go.ChangeShapes Go.WideShapes Go.ChangeAt Go.RowKit kit
set_option maxRecDepth 1000000
theorem mkN_run (m : Nat) (w : World) (hm : m ≤ 1000) : (Instr.makeSlice 25 (.int .i64 m) (.int .i64 m)).run Try.prog w = .ok (.slice (some ⟨w.heap.size, 0, none⟩) m m) (w.alloc (.cells (cellsN (List.replicate m 0)).toArray 3)) := by
  have h := infoI
  cases hi : Try.prog.info? 3 with
  | none => rw [hi] at h; cases h
  | some i =>
    rw [hi] at h
    simp only [Option.map_some, Option.some.injEq, Prod.mk.injEq] at h
    obtain ⟨h1, h2, h3⟩ := h
    have := run_make w 25 3 i (.int .i64 0) Try.underlying25 hi h1 .i64 .i64 m m (by omega) (by omega) (by rw [h3]; omega) (by omega)
    have hc : madeCells #[Value.int .i64 0] m = (cellsN (List.replicate m 0)).toArray := by
      apply Array.ext_getElem?
      intro j
      by_cases hj : j < m
      · simp [madeCells, cellsN, hj, Nat.mod_one]
      · rw [Array.getElem?_eq_none (by simp [madeCells]; omega), Array.getElem?_eq_none (by simp [cellsN]; omega)]
    rw [this, h2, ← hc]
    simp [Value.cells]
theorem qo_new (w : World) (m : Nat) (hm : m ≤ 1000) : Qo (w.alloc (.cells (cellsN (List.replicate m 0)).toArray 3)) w.heap.size 1 (.slice (some ⟨w.heap.size, 0, none⟩) m m) m (cellsN (List.replicate m 0)) := by
  have B := Blk.new w 3 (cellsN (List.replicate m 0)).toArray
  have hl : (cellsN (List.replicate m 0)).length = m := by simp [cellsN]
  refine ⟨by rw [hl]; omega, _, m, rfl, Nat.le_refl _, by unfold maxLen; omega, fun _ => ⟨w.heap.size, 0, rfl, Nat.le_refl _, B.lt, fun j hj => ?_, fun j hj => ?_⟩⟩
  · rw [Nat.zero_add]
    exact ⟨by rw [B.cell j, List.getElem?_toArray, List.getElem?_eq_getElem (by omega)]; rfl, B.frozen j⟩
  · rw [Nat.zero_add, B.cell j, List.getElem?_toArray]
section
variable {P : Program} {ops : Array Oper} {Q : Exit → Act → World → Prop} {S : World → Prop}
theorem op_val {i : Nat} {o : Oper} {u : Value} {d fuel : Nat} {L : Array Bool} {a : Act} {w w' : World} (hi : ops[i]? = some o) (hg : o.guard = none) (hd : o.dst = some d) (hS : S w') (hrun : (execOp a.eval o).run P w = .ok (.value u) w')
    (h : wpAnyH P .any ops Q S fuel (L.setIfInBounds i true) (a.put (some d) u) w') : wpOp P ops Q i (fun a' w' => S w' ∧ wpAnyH P .any ops Q S fuel (L.setIfInBounds i true) a' w') a w := wpOp_of hi hg (wp_val hrun hd ⟨hS, h⟩)
theorem op_alloc {i : Nat} {o : Oper} {ob : Obj} {d fuel : Nat} {L : Array Bool} {a : Act} {w : World} (hi : ops[i]? = some o) (hg : o.guard = none) (hd : o.dst = some d) (hS : S (w.alloc ob)) (rA : ∀ (b : Act) (v : World), (execOp b.eval o).run P v = .ok (.value (.pointer (some ⟨v.heap.size, 0, none⟩))) (v.alloc ob))
    (h : wpAnyH P .any ops Q S fuel (L.setIfInBounds i true) (a.put (some d) (.pointer (some ⟨w.heap.size, 0, none⟩))) (w.alloc ob)) : wpOp P ops Q i (fun a' w' => S w' ∧ wpAnyH P .any ops Q S fuel (L.setIfInBounds i true) a' w') a w := op_val hi hg hd hS (rA a w) h
theorem op_call {i : Nat} {o : Oper} {d fuel : Nat} {L : Array Bool} {a : Act} {w : World} (hi : ops[i]? = some o) (hg : o.guard = none) (hd : o.dst = some d) (f : FuncId) (fn : Func) (xs : Array Operand) (ts : Array TypeId) (hop : o.op = .call { callee := .value (.func f), args := xs, argTypes := ts })
    (hf : P.funcs[f]? = some fn) (hn : (fn.name == "runtime.NumGoroutine") = false) (hb : fn.body.isNone = false) (vs : Array Value) (hx : xs.map a.eval = vs) {R : Ending → World → Prop} (hc : Calls P f vs w R)
    (h : ∀ e w', R e w' → ∃ v, e = .returned v ∧ S w' ∧ wpAnyH P .any ops Q S fuel (L.setIfInBounds i true) (a.put (some d) v) w') : wpOp P ops Q i (fun a' w' => S w' ∧ wpAnyH P .any ops Q S fuel (L.setIfInBounds i true) a' w') a w :=
  wpOp_of_if hi (step_call2 hg f fn xs ts hop hf hn hb vs hx hc fun e w' hR => by
    obtain ⟨v, he, h1, h2⟩ := h e w' hR
    exact ⟨v, he, h1, hd ▸ h2⟩)
end
theorem run_and0 {P : Program} {oi : Oper} {a : Act} {x y : Operand} {tx ty : TypeId} {s j u : Value} {v : World} (ho : oi.op = .binOp .and tx x y ty) (hx : a.eval x = s) (hy : a.eval y = j) (hr : (binOp .and tx s j).run P v = .ok u v) : (execOp a.eval oi).run P v = .ok (.value u) v := by
  unfold execOp
  simp [ho, hx, hy, eqGuard, hr]
theorem run_mk {P : Program} {oi : Oper} {a : Act} {x : Operand} {ty : TypeId} {j u : Value} {v v' : World} (ho : oi.op = .makeSlice ty x x) (hx : a.eval x = j) (hr : (Instr.makeSlice ty j j).run P v = .ok u v') : (execOp a.eval oi).run P v = .ok (.value u) v' := by
  unfold execOp
  simp [ho, hx, hr]
theorem lw_first {G g qb nb m : Nat} {sv : Value} {Y : List (Nat × Nat)} {w : World} (D : Dw g g sv (.slice none 0 0) 0 Y [] [] w) (hg : G ≤ g) (B : Blk w qb 87 #[.slice none 0 0, .slice none 0 0, .slice none 0 0]) (N : Qo w nb 1 (.slice (some ⟨nb, 0, none⟩) m m) m (cellsN (List.replicate m 0))) (hGq : G ≤ qb) (hGn : G ≤ nb) (hF : ∀ i, Foot g sv (.slice none 0 0) Y i → i ≠ qb ∧ i ≠ nb) (hqn : nb ≠ qb) (hY : Y.length = m) (hY0 : ∀ y ∈ Y, y.1 = 0) :
    Lw G g qb sv (.slice none 0 0) 0 Y [] [] (.slice (some ⟨nb, 0, none⟩) m m) (.slice none 0 0) (.slice none 0 0) (Y.map (·.1)) [] [] (w.setCells qb 0 [.slice (some ⟨nb, 0, none⟩) m m, .slice none 0 0, .slice none 0 0]) := by
  have hs : ∀ k : Nat, k ≠ qb → (w.setCells qb 0 [.slice (some ⟨nb, 0, none⟩) m m, .slice none 0 0, .slice none 0 0]).heap[k]? = w.heap[k]? := fun k hk => heap_setCells' hk _ _ _
  have hz : w.heap.size ≤ (w.setCells qb 0 [.slice (some ⟨nb, 0, none⟩) m m, .slice none 0 0, .slice none 0 0]).heap.size := by rw [size_setCells (w := w)]; exact Nat.le_refl _
  have hb : ∀ i, blkOf (.slice (some ⟨nb, 0, none⟩) m m) = some i → i = nb := fun i hi => by
    cases m with
    | zero => cases hi
    | succ k => exact (Option.some.inj hi).symm
  have hmap : Y.map (·.1) = List.replicate m 0 := by
    rw [List.eq_replicate_iff]
    refine ⟨by simp [hY], fun p hp => ?_⟩
    obtain ⟨y, hy, rfl⟩ := List.mem_map.1 hp
    exact hY0 y hy
  have N' : Qo w G 1 (.slice (some ⟨nb, 0, none⟩) m m) (Y.map (·.1)).length (cellsN (Y.map (·.1))) := by
    rw [hmap, List.length_replicate]; exact N.weaken hGn
  refine ⟨(D.frame hz fun k hk => hs k (hF k hk).1).weaken hg, ?_, N'.block hz fun k hk => hs k (fun e => hqn ((hb k hk).symm.trans e)), Qo.nil _ _ _, Qo.nil _ _ _, fun i hi => ⟨(hF i hi).1, fun e => (hF i hi).2 (hb i e), (fun e => by cases e), (fun e => by cases e)⟩, ⟨fun e => hqn (hb qb e).symm, (fun e => by cases e), (fun e => by cases e)⟩, hGq⟩
  have := ((B.set_ 0 (.slice (some ⟨nb, 0, none⟩) m m)).set_ 1 (.slice none 0 0)).set_ 2 (.slice none 0 0)
  simpa [World.setCells] using this
/-- What holds behind the beginning. -/
def Beg (G m : Nat) (w : World) (s6 s7 : Value) (wx : World) : Prop := ∃ (g qb : Nat) (sv nv : Value) (Y : List (Nat × Nat)), s6 = .pointer (some ⟨g, 0, none⟩) ∧ s7 = .pointer (some ⟨qb, 0, none⟩) ∧ Y.length = m ∧ (∀ y ∈ Y, y.1 = 0) ∧ Lw G g qb sv (.slice none 0 0) 0 Y [] [] nv (.slice none 0 0) (.slice none 0 0) (Y.map (·.1)) [] [] wx ∧ Below G w wx
def findReg (k : Nat) : Code → Option Code
  | .region i o d => if i = k then some (.region i o d) else none
  | .loop c => findReg k c
  | .seq a b => match findReg k a with
    | some c => some c
    | none => findReg k b
  | .block _ c => findReg k c
  | .scope c => findReg k c
  | .cond _ a b => match findReg k a with
    | some c => some c
    | none => findReg k b
  | _ => none
noncomputable def reg2 : Code := (Try.f8.body.bind (findReg 2)).getD .skip
set_option maxHeartbeats 1000000 in
theorem begin2 (a : Act) (w : World) (many : Int) (b m : Nat) (hb : bits .and .i64 many 31 = (b : Int)) (hb1 : b ≤ 31) (hm : min (max 1 b) 16 = m) (hsz : a.tmps.size = 179) (h0 : a.eval (.tmp 0) = .int .i64 many) (h5 : a.eval (.tmp 5) = .int .i64 m)
    (Q : Exit → Act → World → Prop) (hfin : ∀ (c : Act) (w' : World) (s6 s7 u23 u24 u25 u26 u27 u28 : Value), Beg w.heap.size m w s6 s7 w' → (c = ((((((((a.put (some 23) u23).put (some 24) u24).put (some 26) u26).put (some 25) u25).put (some 27) u27).put (some 28) u28).put (some 7) s7).put (some 6) s6) ∨ c = ((((((((a.put (some 23) u23).put (some 24) u24).put (some 26) u26).put (some 25) u25).put (some 7) s7).put (some 6) s6).put (some 27) u27).put (some 28) u28) ∨ c = ((((((((a.put (some 23) u23).put (some 24) u24).put (some 26) u26).put (some 27) u27).put (some 28) u28).put (some 25) u25).put (some 7) s7).put (some 6) s6) ∨ c = ((((((((a.put (some 23) u23).put (some 24) u24).put (some 26) u26).put (some 27) u27).put (some 28) u28).put (some 7) s7).put (some 25) u25).put (some 6) s6) ∨ c = ((((((((a.put (some 23) u23).put (some 24) u24).put (some 26) u26).put (some 7) s7).put (some 25) u25).put (some 6) s6).put (some 27) u27).put (some 28) u28) ∨ c = ((((((((a.put (some 23) u23).put (some 24) u24).put (some 26) u26).put (some 7) s7).put (some 27) u27).put (some 28) u28).put (some 25) u25).put (some 6) s6)) → Q .normal c w') (c : Code) (hc : c = reg2) : Code.wp Try.prog c Q a w := by
  subst hc
  conv => arg 2; whnf
  have HF := Lib.hid hfin
  clear hfin
  have hm16 : m ≤ 16 := by omega
  have hnew := fun W => dv_new b m W hb1 hm
  have hand : ∀ v, (binOp .and 3 (.int .i64 many) (.int .i64 31)).run Try.prog v = .ok (.int .i64 (b : Int)) v := fun v => by rw [← hb]; go_simp
  have h00 : Below w.heap.size w w.drew := (Below.refl _ _).drew
  refine wp_region_noPanic ?_
  refine wp_region_held_drew (S := fun _ => True) (by kernel_rfl) trivial (fun _ => ?_)
  refine take_run (i := 0) (u := .int .i64 many) rfl (by kernel_rfl) (by kernel_rfl) (by kernel_rfl) rfl rfl (fun _ _ _ h => h) trivial (fun v _ => run_move rfl h0 v) ?_
  refine take_run (i := 1) (u := .int .i64 (b : Int)) rfl (by kernel_rfl) (by kernel_rfl) (by kernel_rfl) rfl rfl (fun _ _ _ h => h) trivial (fun v _ => run_and0 (s := .int .i64 many) (j := .int .i64 31) rfl (by simp [Act.eval_put_ne, Act.eval_put_same, Act.size_put, hsz, h0, h5]) rfl (hand v)) ?_
  refine take_run (i := 3) (u := .int .i64 m) rfl (by kernel_rfl) (by kernel_rfl) (by kernel_rfl) rfl rfl (fun _ _ _ h => h) trivial (fun v _ => run_move rfl (by simp [Act.eval_put_ne, Act.eval_put_same, Act.size_put, hsz, h0, h5]) v) ?_
  refine wpAnyH_step (rs := [2, 4, 6]) (by kernel_rfl) (by simp) fun i hi => ?_
  simp only [List.mem_cons, List.not_mem_nil, or_false] at hi
  rcases hi with rfl | rfl | rfl
  · skip
    refine op_call rfl rfl rfl 49 Try.f49 _ _ rfl Try.func49 (by kernel_rfl) (by kernel_rfl) #[.int .i64 (b : Int)] (by simp [Act.eval_put_ne, Act.eval_put_same, Act.size_put, hsz, h0, h5]) (hnew _) ?_
    rintro e w1 ⟨rfl, ⟨sv, Y, hY, hY0, D1⟩, hc1⟩
    refine ⟨_, rfl, trivial, ?_⟩
    have hs1 := hc1.size
    have hF1 := fun i (hi : Foot (w.drew).heap.size sv (.slice none 0 0) Y i) => D1.foot hi
    have b1 := h00.trans (hc1.mono h00.size)
    obtain ⟨g, hg⟩ : ∃ g, (w.drew).heap.size = g := ⟨_, rfl⟩
    rw [hg] at D1 hF1 hs1 hc1 ⊢
    refine wpAnyH_step (rs := [4, 6]) (by kernel_rfl) (by simp) fun i hi => ?_
    simp only [List.mem_cons, List.not_mem_nil, or_false] at hi
    rcases hi with rfl | rfl
    · skip
      refine op_val rfl rfl rfl trivial (run_mk rfl (by simp [Act.eval_put_ne, Act.eval_put_same, Act.size_put, hsz, h0, h5]) (mkN_run m _ (by omega))) ?_
      have al2 := (Below.refl (w1).heap.size (w1)).alloc (Nat.le_refl _) (.cells (cellsN (List.replicate m 0)).toArray 3)
      have N2 := qo_new (w1) m (by omega)
      have hs2 : ((w1).alloc (.cells (cellsN (List.replicate m 0)).toArray 3)).heap.size = (w1).heap.size + 1 := by simp
      have b2 := b1.trans (al2.mono b1.size)
      have D2 := D1.below al2 (Nat.le_refl _)
      obtain ⟨nb, hnb⟩ : ∃ nb, (w1).heap.size = nb := ⟨_, rfl⟩
      rw [hnb] at N2 hs2 ⊢
      clear al2
      generalize (w1).alloc (.cells (cellsN (List.replicate m 0)).toArray 3) = w2 at *
      refine take_run (i := 5) (u := .agg #[.slice (some ⟨nb, 0, none⟩) m m, .slice none 0 0, .slice none 0 0]) rfl (by kernel_rfl) (by kernel_rfl) (by kernel_rfl) rfl rfl (fun _ _ _ h => h) trivial (fun v _ => run_buildv (s := .slice (some ⟨nb, 0, none⟩) m m) rfl (by simp [Act.eval_put_ne, Act.eval_put_same, Act.size_put, hsz, h0, h5]) (by kernel_rfl)) ?_
      refine wpAnyH_step (rs := [6]) (by kernel_rfl) (by simp) fun i hi => ?_
      simp only [List.mem_cons, List.not_mem_nil, or_false] at hi
      subst hi
      refine op_alloc (ob := .cells #[.slice none 0 0, .slice none 0 0, .slice none 0 0] 87) rfl rfl rfl trivial (fun b v => by kernel_rfl) ?_
      have al3 := (Below.refl (w2).heap.size (w2)).alloc (Nat.le_refl _) (.cells #[.slice none 0 0, .slice none 0 0, .slice none 0 0] 87)
      have B3 := Blk.new (w2) 87 #[.slice none 0 0, .slice none 0 0, .slice none 0 0]
      have hs3 : ((w2).alloc (.cells #[.slice none 0 0, .slice none 0 0, .slice none 0 0] 87)).heap.size = (w2).heap.size + 1 := by simp
      have b3 := b2.trans (al3.mono b2.size)
      have D3 := D2.below al3 (Nat.le_refl _)
      have N3 := N2.below al3 (Nat.le_refl _)
      obtain ⟨qb, hqb⟩ : ∃ qb, (w2).heap.size = qb := ⟨_, rfl⟩
      rw [hqb] at B3 hs3 ⊢
      clear al3
      generalize (w2).alloc (.cells #[.slice none 0 0, .slice none 0 0, .slice none 0 0] 87) = w3 at *
      refine take_run (i := 7) (u := .pointer (some ⟨g, 0, none⟩)) rfl (by kernel_rfl) (by kernel_rfl) (by kernel_rfl) rfl rfl (fun _ _ _ h => h) trivial (fun v _ => run_assign rfl (by simp [Act.eval_put_ne, Act.eval_put_same, Act.size_put, hsz, h0, h5]) v) ?_
      refine step_store (i := 8) (p := .pointer (some ⟨qb, 0, none⟩)) (u := .agg #[.slice (some ⟨nb, 0, none⟩) m m, .slice none 0 0, .slice none 0 0]) (w' := w3.setCells qb 0 [.slice (some ⟨nb, 0, none⟩) m m, .slice none 0 0, .slice none 0 0]) (by kernel_rfl) rfl rfl rfl rfl (by simp [Act.eval_put_ne, Act.eval_put_same, Act.size_put, hsz, h0, h5]) (by simp [Act.eval_put_ne, Act.eval_put_same, Act.size_put, hsz, h0, h5]) trivial (run_store_at 87 (cs := #[.slice (some ⟨nb, 0, none⟩) m m, .slice none 0 0, .slice none 0 0]) (Cel.of_blk B3) (szR _ _ _) rfl (by kernel_rfl)) ?_
      refine wpAnyH_done (by kernel_rfl) ?_ _
      refine NoPanic.normal ?_
      have hw0 : w.drew.heap.size = w.heap.size := rfl
      refine HF.out _ _ (.pointer (some ⟨g, 0, none⟩)) (.pointer (some ⟨qb, 0, none⟩)) (.int .i64 many) (.int .i64 (b : Int)) (.pointer (some ⟨g, 0, none⟩)) (.int .i64 m) (.slice (some ⟨nb, 0, none⟩) m m) (.agg #[.slice (some ⟨nb, 0, none⟩) m m, .slice none 0 0, .slice none 0 0]) ⟨g, qb, sv, _, Y, rfl, rfl, hY, hY0, lw_first D3 (by omega) B3 N3 (by omega) (by omega) (fun i hi => by have := hF1 i hi; omega) (by omega) hY hY0, below_setCells b3 (by omega) _ _⟩ ?_
      exact .inl rfl
    · skip
      refine op_alloc (ob := .cells #[.slice none 0 0, .slice none 0 0, .slice none 0 0] 87) rfl rfl rfl trivial (fun b v => by kernel_rfl) ?_
      have al2 := (Below.refl (w1).heap.size (w1)).alloc (Nat.le_refl _) (.cells #[.slice none 0 0, .slice none 0 0, .slice none 0 0] 87)
      have B2 := Blk.new (w1) 87 #[.slice none 0 0, .slice none 0 0, .slice none 0 0]
      have hs2 : ((w1).alloc (.cells #[.slice none 0 0, .slice none 0 0, .slice none 0 0] 87)).heap.size = (w1).heap.size + 1 := by simp
      have b2 := b1.trans (al2.mono b1.size)
      have D2 := D1.below al2 (Nat.le_refl _)
      obtain ⟨qb, hqb⟩ : ∃ qb, (w1).heap.size = qb := ⟨_, rfl⟩
      rw [hqb] at B2 hs2 ⊢
      clear al2
      generalize (w1).alloc (.cells #[.slice none 0 0, .slice none 0 0, .slice none 0 0] 87) = w2 at *
      refine take_run (i := 7) (u := .pointer (some ⟨g, 0, none⟩)) rfl (by kernel_rfl) (by kernel_rfl) (by kernel_rfl) rfl rfl (fun _ _ _ h => h) trivial (fun v _ => run_assign rfl (by simp [Act.eval_put_ne, Act.eval_put_same, Act.size_put, hsz, h0, h5]) v) ?_
      refine wpAnyH_step (rs := [4]) (by kernel_rfl) (by simp) fun i hi => ?_
      simp only [List.mem_cons, List.not_mem_nil, or_false] at hi
      subst hi
      refine op_val rfl rfl rfl trivial (run_mk rfl (by simp [Act.eval_put_ne, Act.eval_put_same, Act.size_put, hsz, h0, h5]) (mkN_run m _ (by omega))) ?_
      have al3 := (Below.refl (w2).heap.size (w2)).alloc (Nat.le_refl _) (.cells (cellsN (List.replicate m 0)).toArray 3)
      have N3 := qo_new (w2) m (by omega)
      have hs3 : ((w2).alloc (.cells (cellsN (List.replicate m 0)).toArray 3)).heap.size = (w2).heap.size + 1 := by simp
      have b3 := b2.trans (al3.mono b2.size)
      have D3 := D2.below al3 (Nat.le_refl _)
      have B3 := B2.below al3 B2.lt
      obtain ⟨nb, hnb⟩ : ∃ nb, (w2).heap.size = nb := ⟨_, rfl⟩
      rw [hnb] at N3 hs3 ⊢
      clear al3
      generalize (w2).alloc (.cells (cellsN (List.replicate m 0)).toArray 3) = w3 at *
      refine take_run (i := 5) (u := .agg #[.slice (some ⟨nb, 0, none⟩) m m, .slice none 0 0, .slice none 0 0]) rfl (by kernel_rfl) (by kernel_rfl) (by kernel_rfl) rfl rfl (fun _ _ _ h => h) trivial (fun v _ => run_buildv (s := .slice (some ⟨nb, 0, none⟩) m m) rfl (by simp [Act.eval_put_ne, Act.eval_put_same, Act.size_put, hsz, h0, h5]) (by kernel_rfl)) ?_
      refine step_store (i := 8) (p := .pointer (some ⟨qb, 0, none⟩)) (u := .agg #[.slice (some ⟨nb, 0, none⟩) m m, .slice none 0 0, .slice none 0 0]) (w' := w3.setCells qb 0 [.slice (some ⟨nb, 0, none⟩) m m, .slice none 0 0, .slice none 0 0]) (by kernel_rfl) rfl rfl rfl rfl (by simp [Act.eval_put_ne, Act.eval_put_same, Act.size_put, hsz, h0, h5]) (by simp [Act.eval_put_ne, Act.eval_put_same, Act.size_put, hsz, h0, h5]) trivial (run_store_at 87 (cs := #[.slice (some ⟨nb, 0, none⟩) m m, .slice none 0 0, .slice none 0 0]) (Cel.of_blk B3) (szR _ _ _) rfl (by kernel_rfl)) ?_
      refine wpAnyH_done (by kernel_rfl) ?_ _
      refine NoPanic.normal ?_
      have hw0 : w.drew.heap.size = w.heap.size := rfl
      refine HF.out _ _ (.pointer (some ⟨g, 0, none⟩)) (.pointer (some ⟨qb, 0, none⟩)) (.int .i64 many) (.int .i64 (b : Int)) (.pointer (some ⟨g, 0, none⟩)) (.int .i64 m) (.slice (some ⟨nb, 0, none⟩) m m) (.agg #[.slice (some ⟨nb, 0, none⟩) m m, .slice none 0 0, .slice none 0 0]) ⟨g, qb, sv, _, Y, rfl, rfl, hY, hY0, lw_first D3 (by omega) B3 N3 (by omega) (by omega) (fun i hi => by have := hF1 i hi; omega) (by omega) hY hY0, below_setCells b3 (by omega) _ _⟩ ?_
      exact .inr (.inl rfl)
  · skip
    refine op_val rfl rfl rfl trivial (run_mk rfl (by simp [Act.eval_put_ne, Act.eval_put_same, Act.size_put, hsz, h0, h5]) (mkN_run m _ (by omega))) ?_
    have al1 := (Below.refl (w.drew).heap.size (w.drew)).alloc (Nat.le_refl _) (.cells (cellsN (List.replicate m 0)).toArray 3)
    have N1 := qo_new (w.drew) m (by omega)
    have hs1 : ((w.drew).alloc (.cells (cellsN (List.replicate m 0)).toArray 3)).heap.size = (w.drew).heap.size + 1 := by simp
    have b1 := h00.trans (al1.mono h00.size)
    obtain ⟨nb, hnb⟩ : ∃ nb, (w.drew).heap.size = nb := ⟨_, rfl⟩
    rw [hnb] at N1 hs1 ⊢
    clear al1
    generalize (w.drew).alloc (.cells (cellsN (List.replicate m 0)).toArray 3) = w1 at *
    refine take_run (i := 5) (u := .agg #[.slice (some ⟨nb, 0, none⟩) m m, .slice none 0 0, .slice none 0 0]) rfl (by kernel_rfl) (by kernel_rfl) (by kernel_rfl) rfl rfl (fun _ _ _ h => h) trivial (fun v _ => run_buildv (s := .slice (some ⟨nb, 0, none⟩) m m) rfl (by simp [Act.eval_put_ne, Act.eval_put_same, Act.size_put, hsz, h0, h5]) (by kernel_rfl)) ?_
    refine wpAnyH_step (rs := [2, 6]) (by kernel_rfl) (by simp) fun i hi => ?_
    simp only [List.mem_cons, List.not_mem_nil, or_false] at hi
    rcases hi with rfl | rfl
    · skip
      refine op_call rfl rfl rfl 49 Try.f49 _ _ rfl Try.func49 (by kernel_rfl) (by kernel_rfl) #[.int .i64 (b : Int)] (by simp [Act.eval_put_ne, Act.eval_put_same, Act.size_put, hsz, h0, h5]) (hnew _) ?_
      rintro e w2 ⟨rfl, ⟨sv, Y, hY, hY0, D2⟩, hc2⟩
      refine ⟨_, rfl, trivial, ?_⟩
      have hs2 := hc2.size
      have hF2 := fun i (hi : Foot (w1).heap.size sv (.slice none 0 0) Y i) => D2.foot hi
      have b2 := b1.trans (hc2.mono b1.size)
      have N2 := N1.below hc2 (Nat.le_refl _)
      obtain ⟨g, hg⟩ : ∃ g, (w1).heap.size = g := ⟨_, rfl⟩
      rw [hg] at D2 hF2 hs2 hc2 ⊢
      refine wpAnyH_step (rs := [6]) (by kernel_rfl) (by simp) fun i hi => ?_
      simp only [List.mem_cons, List.not_mem_nil, or_false] at hi
      subst hi
      refine op_alloc (ob := .cells #[.slice none 0 0, .slice none 0 0, .slice none 0 0] 87) rfl rfl rfl trivial (fun b v => by kernel_rfl) ?_
      have al3 := (Below.refl (w2).heap.size (w2)).alloc (Nat.le_refl _) (.cells #[.slice none 0 0, .slice none 0 0, .slice none 0 0] 87)
      have B3 := Blk.new (w2) 87 #[.slice none 0 0, .slice none 0 0, .slice none 0 0]
      have hs3 : ((w2).alloc (.cells #[.slice none 0 0, .slice none 0 0, .slice none 0 0] 87)).heap.size = (w2).heap.size + 1 := by simp
      have b3 := b2.trans (al3.mono b2.size)
      have N3 := N2.below al3 (Nat.le_refl _)
      have D3 := D2.below al3 (Nat.le_refl _)
      obtain ⟨qb, hqb⟩ : ∃ qb, (w2).heap.size = qb := ⟨_, rfl⟩
      rw [hqb] at B3 hs3 ⊢
      clear al3
      generalize (w2).alloc (.cells #[.slice none 0 0, .slice none 0 0, .slice none 0 0] 87) = w3 at *
      refine take_run (i := 7) (u := .pointer (some ⟨g, 0, none⟩)) rfl (by kernel_rfl) (by kernel_rfl) (by kernel_rfl) rfl rfl (fun _ _ _ h => h) trivial (fun v _ => run_assign rfl (by simp [Act.eval_put_ne, Act.eval_put_same, Act.size_put, hsz, h0, h5]) v) ?_
      refine step_store (i := 8) (p := .pointer (some ⟨qb, 0, none⟩)) (u := .agg #[.slice (some ⟨nb, 0, none⟩) m m, .slice none 0 0, .slice none 0 0]) (w' := w3.setCells qb 0 [.slice (some ⟨nb, 0, none⟩) m m, .slice none 0 0, .slice none 0 0]) (by kernel_rfl) rfl rfl rfl rfl (by simp [Act.eval_put_ne, Act.eval_put_same, Act.size_put, hsz, h0, h5]) (by simp [Act.eval_put_ne, Act.eval_put_same, Act.size_put, hsz, h0, h5]) trivial (run_store_at 87 (cs := #[.slice (some ⟨nb, 0, none⟩) m m, .slice none 0 0, .slice none 0 0]) (Cel.of_blk B3) (szR _ _ _) rfl (by kernel_rfl)) ?_
      refine wpAnyH_done (by kernel_rfl) ?_ _
      refine NoPanic.normal ?_
      have hw0 : w.drew.heap.size = w.heap.size := rfl
      refine HF.out _ _ (.pointer (some ⟨g, 0, none⟩)) (.pointer (some ⟨qb, 0, none⟩)) (.int .i64 many) (.int .i64 (b : Int)) (.pointer (some ⟨g, 0, none⟩)) (.int .i64 m) (.slice (some ⟨nb, 0, none⟩) m m) (.agg #[.slice (some ⟨nb, 0, none⟩) m m, .slice none 0 0, .slice none 0 0]) ⟨g, qb, sv, _, Y, rfl, rfl, hY, hY0, lw_first D3 (by omega) B3 N3 (by omega) (by omega) (fun i hi => by have := hF2 i hi; omega) (by omega) hY hY0, below_setCells b3 (by omega) _ _⟩ ?_
      exact .inr (.inr (.inl rfl))
    · skip
      refine op_alloc (ob := .cells #[.slice none 0 0, .slice none 0 0, .slice none 0 0] 87) rfl rfl rfl trivial (fun b v => by kernel_rfl) ?_
      have al2 := (Below.refl (w1).heap.size (w1)).alloc (Nat.le_refl _) (.cells #[.slice none 0 0, .slice none 0 0, .slice none 0 0] 87)
      have B2 := Blk.new (w1) 87 #[.slice none 0 0, .slice none 0 0, .slice none 0 0]
      have hs2 : ((w1).alloc (.cells #[.slice none 0 0, .slice none 0 0, .slice none 0 0] 87)).heap.size = (w1).heap.size + 1 := by simp
      have b2 := b1.trans (al2.mono b1.size)
      have N2 := N1.below al2 (Nat.le_refl _)
      obtain ⟨qb, hqb⟩ : ∃ qb, (w1).heap.size = qb := ⟨_, rfl⟩
      rw [hqb] at B2 hs2 ⊢
      clear al2
      generalize (w1).alloc (.cells #[.slice none 0 0, .slice none 0 0, .slice none 0 0] 87) = w2 at *
      refine wpAnyH_step (rs := [2]) (by kernel_rfl) (by simp) fun i hi => ?_
      simp only [List.mem_cons, List.not_mem_nil, or_false] at hi
      subst hi
      refine op_call rfl rfl rfl 49 Try.f49 _ _ rfl Try.func49 (by kernel_rfl) (by kernel_rfl) #[.int .i64 (b : Int)] (by simp [Act.eval_put_ne, Act.eval_put_same, Act.size_put, hsz, h0, h5]) (hnew _) ?_
      rintro e w3 ⟨rfl, ⟨sv, Y, hY, hY0, D3⟩, hc3⟩
      refine ⟨_, rfl, trivial, ?_⟩
      have hs3 := hc3.size
      have hF3 := fun i (hi : Foot (w2).heap.size sv (.slice none 0 0) Y i) => D3.foot hi
      have b3 := b2.trans (hc3.mono b2.size)
      have N3 := N2.below hc3 (Nat.le_refl _)
      have B3 := B2.below hc3 B2.lt
      obtain ⟨g, hg⟩ : ∃ g, (w2).heap.size = g := ⟨_, rfl⟩
      rw [hg] at D3 hF3 hs3 hc3 ⊢
      refine take_run (i := 7) (u := .pointer (some ⟨g, 0, none⟩)) rfl (by kernel_rfl) (by kernel_rfl) (by kernel_rfl) rfl rfl (fun _ _ _ h => h) trivial (fun v _ => run_assign rfl (by simp [Act.eval_put_ne, Act.eval_put_same, Act.size_put, hsz, h0, h5]) v) ?_
      refine step_store (i := 8) (p := .pointer (some ⟨qb, 0, none⟩)) (u := .agg #[.slice (some ⟨nb, 0, none⟩) m m, .slice none 0 0, .slice none 0 0]) (w' := w3.setCells qb 0 [.slice (some ⟨nb, 0, none⟩) m m, .slice none 0 0, .slice none 0 0]) (by kernel_rfl) rfl rfl rfl rfl (by simp [Act.eval_put_ne, Act.eval_put_same, Act.size_put, hsz, h0, h5]) (by simp [Act.eval_put_ne, Act.eval_put_same, Act.size_put, hsz, h0, h5]) trivial (run_store_at 87 (cs := #[.slice (some ⟨nb, 0, none⟩) m m, .slice none 0 0, .slice none 0 0]) (Cel.of_blk B3) (szR _ _ _) rfl (by kernel_rfl)) ?_
      refine wpAnyH_done (by kernel_rfl) ?_ _
      refine NoPanic.normal ?_
      have hw0 : w.drew.heap.size = w.heap.size := rfl
      refine HF.out _ _ (.pointer (some ⟨g, 0, none⟩)) (.pointer (some ⟨qb, 0, none⟩)) (.int .i64 many) (.int .i64 (b : Int)) (.pointer (some ⟨g, 0, none⟩)) (.int .i64 m) (.slice (some ⟨nb, 0, none⟩) m m) (.agg #[.slice (some ⟨nb, 0, none⟩) m m, .slice none 0 0, .slice none 0 0]) ⟨g, qb, sv, _, Y, rfl, rfl, hY, hY0, lw_first D3 (by omega) B3 N3 (by omega) (by omega) (fun i hi => by have := hF3 i hi; omega) (by omega) hY hY0, below_setCells b3 (by omega) _ _⟩ ?_
      exact .inr (.inr (.inr (.inl rfl)))
  · skip
    refine op_alloc (ob := .cells #[.slice none 0 0, .slice none 0 0, .slice none 0 0] 87) rfl rfl rfl trivial (fun b v => by kernel_rfl) ?_
    have al1 := (Below.refl (w.drew).heap.size (w.drew)).alloc (Nat.le_refl _) (.cells #[.slice none 0 0, .slice none 0 0, .slice none 0 0] 87)
    have B1 := Blk.new (w.drew) 87 #[.slice none 0 0, .slice none 0 0, .slice none 0 0]
    have hs1 : ((w.drew).alloc (.cells #[.slice none 0 0, .slice none 0 0, .slice none 0 0] 87)).heap.size = (w.drew).heap.size + 1 := by simp
    have b1 := h00.trans (al1.mono h00.size)
    obtain ⟨qb, hqb⟩ : ∃ qb, (w.drew).heap.size = qb := ⟨_, rfl⟩
    rw [hqb] at B1 hs1 ⊢
    clear al1
    generalize (w.drew).alloc (.cells #[.slice none 0 0, .slice none 0 0, .slice none 0 0] 87) = w1 at *
    refine wpAnyH_step (rs := [2, 4]) (by kernel_rfl) (by simp) fun i hi => ?_
    simp only [List.mem_cons, List.not_mem_nil, or_false] at hi
    rcases hi with rfl | rfl
    · skip
      refine op_call rfl rfl rfl 49 Try.f49 _ _ rfl Try.func49 (by kernel_rfl) (by kernel_rfl) #[.int .i64 (b : Int)] (by simp [Act.eval_put_ne, Act.eval_put_same, Act.size_put, hsz, h0, h5]) (hnew _) ?_
      rintro e w2 ⟨rfl, ⟨sv, Y, hY, hY0, D2⟩, hc2⟩
      refine ⟨_, rfl, trivial, ?_⟩
      have hs2 := hc2.size
      have hF2 := fun i (hi : Foot (w1).heap.size sv (.slice none 0 0) Y i) => D2.foot hi
      have b2 := b1.trans (hc2.mono b1.size)
      have B2 := B1.below hc2 B1.lt
      obtain ⟨g, hg⟩ : ∃ g, (w1).heap.size = g := ⟨_, rfl⟩
      rw [hg] at D2 hF2 hs2 hc2 ⊢
      refine take_run (i := 7) (u := .pointer (some ⟨g, 0, none⟩)) rfl (by kernel_rfl) (by kernel_rfl) (by kernel_rfl) rfl rfl (fun _ _ _ h => h) trivial (fun v _ => run_assign rfl (by simp [Act.eval_put_ne, Act.eval_put_same, Act.size_put, hsz, h0, h5]) v) ?_
      refine wpAnyH_step (rs := [4]) (by kernel_rfl) (by simp) fun i hi => ?_
      simp only [List.mem_cons, List.not_mem_nil, or_false] at hi
      subst hi
      refine op_val rfl rfl rfl trivial (run_mk rfl (by simp [Act.eval_put_ne, Act.eval_put_same, Act.size_put, hsz, h0, h5]) (mkN_run m _ (by omega))) ?_
      have al3 := (Below.refl (w2).heap.size (w2)).alloc (Nat.le_refl _) (.cells (cellsN (List.replicate m 0)).toArray 3)
      have N3 := qo_new (w2) m (by omega)
      have hs3 : ((w2).alloc (.cells (cellsN (List.replicate m 0)).toArray 3)).heap.size = (w2).heap.size + 1 := by simp
      have b3 := b2.trans (al3.mono b2.size)
      have B3 := B2.below al3 B2.lt
      have D3 := D2.below al3 (Nat.le_refl _)
      obtain ⟨nb, hnb⟩ : ∃ nb, (w2).heap.size = nb := ⟨_, rfl⟩
      rw [hnb] at N3 hs3 ⊢
      clear al3
      generalize (w2).alloc (.cells (cellsN (List.replicate m 0)).toArray 3) = w3 at *
      refine take_run (i := 5) (u := .agg #[.slice (some ⟨nb, 0, none⟩) m m, .slice none 0 0, .slice none 0 0]) rfl (by kernel_rfl) (by kernel_rfl) (by kernel_rfl) rfl rfl (fun _ _ _ h => h) trivial (fun v _ => run_buildv (s := .slice (some ⟨nb, 0, none⟩) m m) rfl (by simp [Act.eval_put_ne, Act.eval_put_same, Act.size_put, hsz, h0, h5]) (by kernel_rfl)) ?_
      refine step_store (i := 8) (p := .pointer (some ⟨qb, 0, none⟩)) (u := .agg #[.slice (some ⟨nb, 0, none⟩) m m, .slice none 0 0, .slice none 0 0]) (w' := w3.setCells qb 0 [.slice (some ⟨nb, 0, none⟩) m m, .slice none 0 0, .slice none 0 0]) (by kernel_rfl) rfl rfl rfl rfl (by simp [Act.eval_put_ne, Act.eval_put_same, Act.size_put, hsz, h0, h5]) (by simp [Act.eval_put_ne, Act.eval_put_same, Act.size_put, hsz, h0, h5]) trivial (run_store_at 87 (cs := #[.slice (some ⟨nb, 0, none⟩) m m, .slice none 0 0, .slice none 0 0]) (Cel.of_blk B3) (szR _ _ _) rfl (by kernel_rfl)) ?_
      refine wpAnyH_done (by kernel_rfl) ?_ _
      refine NoPanic.normal ?_
      have hw0 : w.drew.heap.size = w.heap.size := rfl
      refine HF.out _ _ (.pointer (some ⟨g, 0, none⟩)) (.pointer (some ⟨qb, 0, none⟩)) (.int .i64 many) (.int .i64 (b : Int)) (.pointer (some ⟨g, 0, none⟩)) (.int .i64 m) (.slice (some ⟨nb, 0, none⟩) m m) (.agg #[.slice (some ⟨nb, 0, none⟩) m m, .slice none 0 0, .slice none 0 0]) ⟨g, qb, sv, _, Y, rfl, rfl, hY, hY0, lw_first D3 (by omega) B3 N3 (by omega) (by omega) (fun i hi => by have := hF2 i hi; omega) (by omega) hY hY0, below_setCells b3 (by omega) _ _⟩ ?_
      exact .inr (.inr (.inr (.inr (.inl rfl))))
    · skip
      refine op_val rfl rfl rfl trivial (run_mk rfl (by simp [Act.eval_put_ne, Act.eval_put_same, Act.size_put, hsz, h0, h5]) (mkN_run m _ (by omega))) ?_
      have al2 := (Below.refl (w1).heap.size (w1)).alloc (Nat.le_refl _) (.cells (cellsN (List.replicate m 0)).toArray 3)
      have N2 := qo_new (w1) m (by omega)
      have hs2 : ((w1).alloc (.cells (cellsN (List.replicate m 0)).toArray 3)).heap.size = (w1).heap.size + 1 := by simp
      have b2 := b1.trans (al2.mono b1.size)
      have B2 := B1.below al2 B1.lt
      obtain ⟨nb, hnb⟩ : ∃ nb, (w1).heap.size = nb := ⟨_, rfl⟩
      rw [hnb] at N2 hs2 ⊢
      clear al2
      generalize (w1).alloc (.cells (cellsN (List.replicate m 0)).toArray 3) = w2 at *
      refine take_run (i := 5) (u := .agg #[.slice (some ⟨nb, 0, none⟩) m m, .slice none 0 0, .slice none 0 0]) rfl (by kernel_rfl) (by kernel_rfl) (by kernel_rfl) rfl rfl (fun _ _ _ h => h) trivial (fun v _ => run_buildv (s := .slice (some ⟨nb, 0, none⟩) m m) rfl (by simp [Act.eval_put_ne, Act.eval_put_same, Act.size_put, hsz, h0, h5]) (by kernel_rfl)) ?_
      refine wpAnyH_step (rs := [2]) (by kernel_rfl) (by simp) fun i hi => ?_
      simp only [List.mem_cons, List.not_mem_nil, or_false] at hi
      subst hi
      refine op_call rfl rfl rfl 49 Try.f49 _ _ rfl Try.func49 (by kernel_rfl) (by kernel_rfl) #[.int .i64 (b : Int)] (by simp [Act.eval_put_ne, Act.eval_put_same, Act.size_put, hsz, h0, h5]) (hnew _) ?_
      rintro e w3 ⟨rfl, ⟨sv, Y, hY, hY0, D3⟩, hc3⟩
      refine ⟨_, rfl, trivial, ?_⟩
      have hs3 := hc3.size
      have hF3 := fun i (hi : Foot (w2).heap.size sv (.slice none 0 0) Y i) => D3.foot hi
      have b3 := b2.trans (hc3.mono b2.size)
      have B3 := B2.below hc3 B2.lt
      have N3 := N2.below hc3 (Nat.le_refl _)
      obtain ⟨g, hg⟩ : ∃ g, (w2).heap.size = g := ⟨_, rfl⟩
      rw [hg] at D3 hF3 hs3 hc3 ⊢
      refine take_run (i := 7) (u := .pointer (some ⟨g, 0, none⟩)) rfl (by kernel_rfl) (by kernel_rfl) (by kernel_rfl) rfl rfl (fun _ _ _ h => h) trivial (fun v _ => run_assign rfl (by simp [Act.eval_put_ne, Act.eval_put_same, Act.size_put, hsz, h0, h5]) v) ?_
      refine step_store (i := 8) (p := .pointer (some ⟨qb, 0, none⟩)) (u := .agg #[.slice (some ⟨nb, 0, none⟩) m m, .slice none 0 0, .slice none 0 0]) (w' := w3.setCells qb 0 [.slice (some ⟨nb, 0, none⟩) m m, .slice none 0 0, .slice none 0 0]) (by kernel_rfl) rfl rfl rfl rfl (by simp [Act.eval_put_ne, Act.eval_put_same, Act.size_put, hsz, h0, h5]) (by simp [Act.eval_put_ne, Act.eval_put_same, Act.size_put, hsz, h0, h5]) trivial (run_store_at 87 (cs := #[.slice (some ⟨nb, 0, none⟩) m m, .slice none 0 0, .slice none 0 0]) (Cel.of_blk B3) (szR _ _ _) rfl (by kernel_rfl)) ?_
      refine wpAnyH_done (by kernel_rfl) ?_ _
      refine NoPanic.normal ?_
      have hw0 : w.drew.heap.size = w.heap.size := rfl
      refine HF.out _ _ (.pointer (some ⟨g, 0, none⟩)) (.pointer (some ⟨qb, 0, none⟩)) (.int .i64 many) (.int .i64 (b : Int)) (.pointer (some ⟨g, 0, none⟩)) (.int .i64 m) (.slice (some ⟨nb, 0, none⟩) m m) (.agg #[.slice (some ⟨nb, 0, none⟩) m m, .slice none 0 0, .slice none 0 0]) ⟨g, qb, sv, _, Y, rfl, rfl, hY, hY0, lw_first D3 (by omega) B3 N3 (by omega) (by omega) (fun i hi => by have := hF3 i hi; omega) (by omega) hY hY0, below_setCells b3 (by omega) _ _⟩ ?_
      exact .inr (.inr (.inr (.inr (.inr (rfl)))))
end Go.Proofs.Ythddacgdmngfhaa.del
