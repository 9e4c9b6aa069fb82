/- Layer 37: a map from streams to rows of messages; its operations in drawn regions. -/
import Derived.Test.YthjhiogbnacmdaaMoC
import Derived.Test.YthjhiogbnacmdaaKitN
namespace Go.Proofs.Ythjhiogbnacmdaa.mo
open Go.Sort (grow)
open Go.ChangeShapes Go.WideShapes Go.ChangeAt Go.RowKit Go.ChangeMaps Go.MapKept kit cut
set_option maxRecDepth 100000

section
variable {P : Program} {ops : Array Oper} {Q : Exit → Act → World → Prop} {S : World → Prop} {c : Nat}
theorem wp_unit {o : Oper} {a : Act} {w w' : World} {K : Act → World → Prop} (hd : o.dst = none) (hr : (execOp a.eval o).run P w = .ok .skip w') (h : K a w') : o.wp P a w K Q := by
  unfold Oper.wp
  rw [hr]
  simp only [Oper.upon]
  rw [hd]
  exact h
theorem unit_C {i : Nat} {o : Oper} {fuel : Nat} {L : Array Bool} {a : Act} {w w' : World} (hr : Region.ready .any ops L = [i]) (hi : ops[i]? = some o) (hg : o.guard = none) (hd : o.dst = none) (hS : i ≠ c → S w') (hrun : (execOp a.eval o).run P w = .ok .skip w')
    (h : wpAnyC P .any ops Q S c fuel (L.setIfInBounds i true) a w') : wpAnyC P .any ops Q S c (fuel + 1) L a w :=
  one_C hr hi hg fun _ hK => wp_unit hd hrun (hK _ _ hS h)
theorem run_upd {oi : Oper} {a : Act} {m k x : Operand} {t : TypeId} {vm vk vx : Value} {w w' : World} (ho : oi.op = .mapUpdate t m k x) (h1 : a.eval m = vm) (h2 : a.eval k = vk) (h3 : a.eval x = vx) (hr : (Instr.mapUpdate t vm vk vx).run P w = .ok () w') : (execOp a.eval oi).run P w = .ok .skip w' := by
  unfold execOp
  simp [ho, h1, h2, h3, hr, Result.andThen]
theorem run_est {oi : Oper} {a : Act} {m k x : Operand} {t : TypeId} {vm vk vx : Value} {w w' : World} (ho : oi.op = .entryStore t m k x) (h1 : a.eval m = vm) (h2 : a.eval k = vk) (h3 : a.eval x = vx) (hr : (Instr.entryStore t vm vk vx).run P w = .ok () w') : (execOp a.eval oi).run P w = .ok .skip w' := by
  unfold execOp
  simp [ho, h1, h2, h3, hr, Result.andThen]
theorem run_lookup {oi : Oper} {a : Act} {m k : Operand} {t : TypeId} {vm vk u : Value} {w : World} (ho : oi.op = .lookup t m k false) (h1 : a.eval m = vm) (h2 : a.eval k = vk) (hr : (Instr.lookup t vm vk false).run P w = .ok u w) : (execOp a.eval oi).run P w = .ok (.value u) w := by
  unfold execOp
  simp [ho, h1, h2, hr, Result.andThen]
theorem run_entry9 {oi : Oper} {a : Act} {m k : Operand} {t : TypeId} {vm vk u : Value} {w w' : World} (ho : oi.op = .mapEntry t m k) (h1 : a.eval m = vm) (h2 : a.eval k = vk) (hr : (Instr.mapEntry t vm vk).run P w = .ok u w') : (execOp a.eval oi).run P w = .ok (.value u) w' := by
  unfold execOp
  simp [ho, h1, h2, hr, Result.andThen]
theorem call_C {i : Nat} {o : Oper} {d fuel : Nat} {L : Array Bool} {a : Act} {w : World} (hr : Region.ready .any ops L = [i]) (hi : ops[i]? = some o) (hg : o.guard = none) (hd : o.dst = some d) (f : FuncId) (fn : Func) (xs : Array Operand) (ts : Array TypeId) (hop : o.op = .call { callee := .value (.func f), args := xs, argTypes := ts })
    (hf : P.funcs[f]? = some fn) (hn : (fn.name == "runtime.NumGoroutine") = false) (hb : fn.body.isNone = false) (vs : Array Value) (hx : xs.map a.eval = vs) {R : Ending → World → Prop} (hc : Calls P f vs w R)
    (h : ∀ e w', R e w' → ∃ v, e = .returned v ∧ (i ≠ c → S w') ∧ wpAnyC P .any ops Q S c fuel (L.setIfInBounds i true) (a.put (some d) v) w') : wpAnyC P .any ops Q S c (fuel + 1) L a w :=
  one_C hr hi hg fun K hK => by
    have := step_call2 (ops := ops) (E := True) hg f fn xs ts hop hf hn hb vs hx hc (K := K) (Q := Q) (fun e w' hR => by
      obtain ⟨v, he, h1, h2⟩ := h e w' hR
      exact ⟨v, he, by rw [hd]; exact hK _ _ h1 h2⟩)
    rwa [if_pos (by simp [Region.wanted, hg])] at this
end
section
variable {P : Program} {T K E : TypeId} {w : World} {B : Nat} {f : Int → Value} {z : Value}
/-- Block B is a map: of each number this value; what it hasn't is z. -/
def WM (w : World) (B : Nat) (f : Int → Value) (z : Value) : Prop :=
  ∃ es c, MapB w B es c ∧ (es.toList.map (·.key)).Nodup ∧ (∀ x ∈ es.toList, ∃ k : Int, x.key = .int .i64 k ∧ x.val = f k) ∧ ∀ k : Int, (∀ x ∈ es.toList, x.key ≠ .int .i64 k) → f k = z
theorem WM.lt (h : WM w B f z) : B < w.heap.size := by obtain ⟨es, c, hm, _⟩ := h; exact hm.lt
theorem WM.block {w' : World} (h : WM w B f z) (e : w'.heap[B]? = w.heap[B]?) : WM w' B f z := by
  obtain ⟨es, c, hm, r⟩ := h
  exact ⟨es, c, hm.block e, r⟩
theorem WM.below {k : Nat} {w' : World} (h : WM w B f z) (hb : Below k w w') (hk : B < k) : WM w' B f z := h.block (hb.block B hk)
theorem WM.drew (h : WM w B f z) : WM w.drew B f z := h
theorem WM.new (w : World) (z : Value) : WM (w.alloc (.map #[] 0)) w.heap.size (fun _ => z) z := ⟨#[], 0, MapB.new w, by simp, by simp, fun _ _ => rfl⟩
theorem wm_isKey {es : Array MapEntry} (h : ∀ x ∈ es.toList, ∃ k : Int, x.key = .int .i64 k ∧ x.val = f k) : ∀ x ∈ es.toList, IsKey (.int .i64) x.key := by
  intro x hx
  obtain ⟨k, e, _⟩ := h x hx
  rw [e]
  exact isKey_int _ _
theorem WM.look (h : WM w B f z) (ht : P.underlying T = some (.map K E)) (hk : P.underlying K = some (.int .i64)) (hz : ∀ u : World, (zeroValue E).run P u = .ok z u) (k : Int) :
    (Instr.lookup T (.map (some B)) (.int .i64 k) false).run P w = .ok (f k) w := by
  obtain ⟨es, c, hm, hn, hx, h0⟩ := h
  rcases findNow_spec (isKey_int .i64 k) es.toList 0 (wm_isKey hx) with ⟨h1, h2⟩ | ⟨j, e0, h1, h2, h3⟩
  · rw [h0 k h2]
    simp [Instr.lookup, run_underlying ht, MapKept.run_getObj_map hm, run_checkKey hk (isKey_int .i64 k), run_findKey hk h1, hz, Result.andThen]
  · obtain ⟨k', e1, e2⟩ := hx e0 (List.mem_of_getElem? h2)
    have : k' = k := by rw [h3] at e1; simpa using e1.symm
    subst this
    rw [Nat.zero_add] at h1
    rw [← e2]
    simp [Instr.lookup, run_underlying ht, MapKept.run_getObj_map hm, run_checkKey hk (isKey_int .i64 k'), run_findKey hk h1, Result.andThen]
theorem WM.put (h : WM w B f z) (ht : P.underlying T = some (.map K E)) (hk : P.underlying K = some (.int .i64)) (k : Int) (v : Value) :
    ∃ es' c', (Instr.mapUpdate T (.map (some B)) (.int .i64 k) v).run P w = .ok () (setBlock w B (.map es' c')) ∧ WM (setBlock w B (.map es' c')) B (fun y => if y = k then v else f y) z := by
  obtain ⟨es, c, hm, hn, hx, h0⟩ := h
  rcases findNow_spec (isKey_int .i64 k) es.toList 0 (wm_isKey hx) with ⟨h1, h2⟩ | ⟨j, e0, h1, h2, h3⟩
  · refine ⟨_, _, up_new ht hk hm v h1, _, _, hm.set_ _ _, ?_, ?_, ?_⟩
    · rw [Array.toList_push, List.map_append, List.nodup_append]
      refine ⟨hn, by simp, fun a ha b hb e => ?_⟩
      simp only [List.map_cons, List.map_nil, List.mem_singleton] at hb
      subst hb
      subst e
      obtain ⟨x, hxm, he⟩ := List.mem_map.1 ha
      exact h2 x hxm he
    · intro x hxm
      rw [Array.toList_push, List.mem_append] at hxm
      rcases hxm with q | q
      · obtain ⟨k', e1, e2⟩ := hx x q
        refine ⟨k', e1, ?_⟩
        have : ¬ k' = k := fun e => h2 x q (by rw [e1, e])
        simp only []
        rw [if_neg this, e2]
      · rw [List.mem_singleton] at q
        subst q
        exact ⟨k, rfl, by simp⟩
    · intro k' hk'
      have : ¬ k' = k := fun e => hk' ⟨.int .i64 k, v, c⟩ (by simp) (by rw [e])
      simp only []
      rw [if_neg this]
      exact h0 k' fun x hxm => hk' x (by rw [Array.toList_push, List.mem_append]; exact .inl hxm)
  · have hj : es[j]? = some e0 := by simpa using h2
    have hlj : j < es.toList.length := (List.getElem?_eq_some_iff.1 h2).1
    have hmod : es.modify j (fun e => { e with key := Value.int .i64 k, val := v }) = (es.toList.set j ⟨.int .i64 k, v, e0.born⟩).toArray := by
      apply Array.ext'
      rw [Array.toList_modify, modify_eq_set _ _ _ _ h2]
    have hkeys : (es.toList.set j ⟨.int .i64 k, v, e0.born⟩).map (·.key) = es.toList.map (·.key) := by
      rw [List.map_set]
      exact Go.WideElems.set_self _ _ _ (by rw [List.getElem?_map, h2, ← h3]; rfl)
    have hmem2 : ∀ x ∈ es.toList.set j ⟨.int .i64 k, v, e0.born⟩, x = ⟨.int .i64 k, v, e0.born⟩ ∨ (x ∈ es.toList ∧ x.key ≠ .int .i64 k) := by
      intro x hx'
      obtain ⟨i, hi, rfl⟩ := List.mem_iff_getElem.1 hx'
      rw [List.getElem_set]
      split
      · exact .inl rfl
      · rename_i hne
        have hi' : i < es.toList.length := by simpa using hi
        refine .inr ⟨List.getElem_mem hi', fun e => hne ?_⟩
        have a1 : (es.toList.map (·.key))[i]? = some (.int .i64 k) := by rw [List.getElem?_map, List.getElem?_eq_getElem hi']; exact congrArg some e
        have a2 : (es.toList.map (·.key))[j]? = some (.int .i64 k) := by rw [List.getElem?_map, h2]; simp [h3]
        exact ((List.getElem?_inj (by simpa using hi') hn).1 (a1.trans a2.symm)).symm
    refine ⟨es.modify j (fun e => { e with key := .int .i64 k, val := v }), c, ?_, ?_⟩
    · simp [Instr.mapUpdate, run_underlying ht, MapKept.run_getObj_map hm, run_checkKey hk (isKey_int .i64 k), run_findKey hk h1, hj, h3, run_keyThatStays (isKey_int .i64 k), MapKept.run_setObj_map _ hm, Result.andThen, setBlock]
    · rw [hmod]
      refine ⟨_, _, hm.set_ _ _, by rw [show (es.toList.set j ⟨.int .i64 k, v, e0.born⟩).toArray.toList = es.toList.set j ⟨.int .i64 k, v, e0.born⟩ from rfl, hkeys]; exact hn, ?_, ?_⟩
      · intro x hx'
        rcases hmem2 x (by simpa using hx') with rfl | ⟨q, qk⟩
        · exact ⟨k, rfl, by simp⟩
        · obtain ⟨k', e1, e2⟩ := hx x q
          refine ⟨k', e1, ?_⟩
          have hne : ¬ k' = k := fun e => qk (by rw [e1, e])
          simp only []
          rw [if_neg hne, e2]
      · intro k' hk'
        have hne : ¬ k' = k := fun e => hk' ⟨.int .i64 k, v, e0.born⟩ (by simpa using List.mem_iff_getElem.2 ⟨j, by simpa using hlj, by simp⟩) (by rw [e])
        simp only []
        rw [if_neg hne]
        refine h0 k' fun x hxm e => ?_
        have : x.key ∈ (es.toList.set j ⟨.int .i64 k, v, e0.born⟩).map (·.key) := by rw [hkeys]; exact List.mem_map.2 ⟨x, hxm, rfl⟩
        obtain ⟨x', hx', e'⟩ := List.mem_map.1 this
        exact hk' x' (by simpa using hx') (e'.trans e)
end
/-- What waits: of each stream a row. -/
structure Wo (B0 : Nat) (w wr : World) (f : Int → Value) (g : Int → List Ms) : Prop where
  M : WM wr B0 f (.slice none 0 0)
  rows : ∀ s, QM wr (B0 + 1) (f s) (g s)
  apart : ∀ s t, s ≠ t → ∀ b, blkOf (f s) = some b → blkOf (f t) ≠ some b
  bel : Below B0 w wr
section
variable {B0 : Nat} {w wr w' : World} {f : Int → Value} {g : Int → List Ms}
theorem Wo.below {k : Nat} (h : Wo B0 w wr f g) (hb : Below k wr w') (hk : wr.heap.size ≤ k) : Wo B0 w w' f g :=
  ⟨h.M.below hb (by have := h.M.lt; omega), fun s => (h.rows s).below hb hk, h.apart, h.bel.trans (hb.mono (by have := h.M.lt; omega))⟩
theorem Wo.drew (h : Wo B0 w wr f g) : Wo B0 w wr.drew f g := ⟨h.M.drew, fun s => (h.rows s).drew, h.apart, h.bel.drew⟩
theorem Wo.put {s : Int} {v : Value} {l : List Ms} (h : Wo B0 w wr f g) (hS : wr.heap.size ≤ w'.heap.size) (hM : WM w' B0 f (.slice none 0 0)) (hq : QM w' (B0 + 1) v l) (ho : ∀ t, t ≠ s → QM w' (B0 + 1) (f t) (g t)) (hv : ∀ b, blkOf v = some b → ∀ t, t ≠ s → blkOf (f t) ≠ some b) (hb : Below B0 w w') :
    ∃ w'', (Instr.mapUpdate 95 (.map (some B0)) (.int .i64 s) v).run Try.prog w' = .ok () w'' ∧ Wo B0 w w'' (fun y => if y = s then v else f y) (fun y => if y = s then l else g y) ∧ Only B0 w' w'' ∧ Below B0 w' w'' := by
  obtain ⟨es', c', hr, hm⟩ := hM.put (P := Try.prog) (T := 95) (K := 3) (E := 35) (by kernel_rfl) (by kernel_rfl) s v
  obtain ⟨es, c, hm0, _⟩ := id hM
  have hoth : ∀ i, i ≠ B0 → (setBlock w' B0 (.map es' c')).heap[i]? = w'.heap[i]? := fun i hi => hm0.other es' c' hi
  have hsz : (setBlock w' B0 (.map es' c')).heap.size = w'.heap.size := MapB.size w' B0 _
  have tr : ∀ {vv : Value} {ll : List Ms}, QM w' (B0 + 1) vv ll → QM (setBlock w' B0 (.map es' c')) (B0 + 1) vv ll := fun q => q.block (by rw [hsz]; exact Nat.le_refl _) fun g' hg => hoth g' (by have := (q.lt hg).1; omega)
  refine ⟨_, hr, ⟨hm, fun t => ?_, fun a b hab bl h1 h2 => ?_, hm0.bel hb (Nat.le_refl _) es' c'⟩, ⟨by rw [hsz]; exact Nat.le_refl _, fun k _ hne => hoth k hne⟩, hm0.bel (Below.refl _ _) (Nat.le_refl _) es' c'⟩
  · by_cases e : t = s
    · subst e
      simp only [if_true]
      exact tr hq
    · simp only [if_neg e]
      exact tr (ho t e)
  · by_cases ea : a = s
    · subst ea
      simp only [if_true] at h1
      rw [if_neg (fun e => hab e.symm)] at h2
      exact hv bl h1 b (fun e => hab e.symm) h2
    · simp only [if_neg ea] at h1
      by_cases eb : b = s
      · subst eb
        simp only [if_true] at h2
        exact hv bl h2 a ea h1
      · simp only [if_neg eb] at h2
        exact h.apart a b hab bl h1 h2
/-- One more waits. -/
theorem Wo.app (h : Wo B0 w wr f g) (s : Int) (x : Ms) (hl : (g s).length ≤ 100) :
    ∃ v' w7, (Builtin.append_ #[35, 35] 35 #[f s, .slice (some ⟨wr.heap.size, 0, none⟩) 1 1]).run Try.prog (wr.alloc (.cells (me x) 71)) = .ok v' w7 ∧ wr.heap.size ≤ w7.heap.size ∧ WM w7 B0 f (.slice none 0 0) ∧ QM w7 (B0 + 1) v' (g s ++ [x]) ∧ (∀ t, t ≠ s → QM w7 (B0 + 1) (f t) (g t)) ∧ (∀ b, blkOf v' = some b → ∀ t, t ≠ s → blkOf (f t) ≠ some b) ∧ Below B0 w w7 ∧ (∀ k, k < wr.heap.size → blkOf (f s) ≠ some k → w7.heap[k]? = wr.heap[k]?) := by
  have hm := h.M.lt
  obtain ⟨v', w7, hr, q, gr, ha⟩ := me_app (h.rows s) (by omega) x hl
  have al := (Below.refl wr.heap.size wr).alloc (Nat.le_refl _) (.cells (me x) 71)
  have hsz : (wr.alloc (.cells (me x) 71)).heap.size = wr.heap.size + 1 := by simp
  have hgs := gr.size
  have hfr : ∀ k, k < wr.heap.size → blkOf (f s) ≠ some k → w7.heap[k]? = wr.heap[k]? := fun k hk hne => (gr.block k (by omega) (fun e => hne e.symm)).trans (al.block k hk)
  have hlo : ∀ b, blkOf (f s) = some b → B0 + 1 ≤ b := fun b hb => ((h.rows s).lt hb).1
  refine ⟨v', w7, hr, by omega, h.M.block (hfr B0 hm (fun e => by have := hlo _ e; omega)), q, fun t ht => (h.rows t).block (by omega) fun b hb => hfr b ((h.rows t).lt hb).2 (fun e => h.apart t s ht b hb e), fun b hb t ht e => ?_, (h.bel.trans (al.mono (by omega))).grown gr (by omega) (fun k hk => by have := hlo k hk; omega), hfr⟩
  have hbt := ((h.rows t).lt e).2
  rcases ha with q1 | q1 | q1
  · rw [q1] at hb
    exact h.apart t s ht b e hb
  · rw [q1] at hb
    injection hb with hb
    omega
  · rw [q1] at hb
    cases hb
theorem Wo.new (w : World) : Wo w.heap.size w (w.alloc (.map #[] 0)) (fun _ => .slice none 0 0) (fun _ => []) :=
  ⟨WM.new w _, fun s => Qo.nil _ _ _, (fun s t _ b hb => by cases hb), (Below.refl w.heap.size w).alloc (Nat.le_refl _) _⟩
end
end Go.Proofs.Ythjhiogbnacmdaa.mo
