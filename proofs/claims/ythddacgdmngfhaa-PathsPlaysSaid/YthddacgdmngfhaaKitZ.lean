/- General words, over any program: two calls in either order, each making memory alone, behind a guard or not. -/
import Derived.Test.YthddacgdmngfhaaKitY
namespace Go.Proofs.Ythddacgdmngfhaa.kit
open Go.ChangeShapes Go.WideShapes Go.ChangeAt Go.RowKit
section
variable {P : Program} {ops : Array Oper} {Q : Exit → Act → World → Prop} {S : World → Prop}
theorem step_call3 {o : Oper} {a : Act} {w : World} {K : Act → World → Prop} {E : Prop}
    (hw : Region.wanted o (yielded ops a.tmps) = true) (f : FuncId) (fn : Func) (xs : Array Operand) (ts : Array TypeId) (hop : o.op = .call { callee := .value (.func f), args := xs, argTypes := ts })
    (hf : P.funcs[f]? = some fn) (hn : (fn.name == "runtime.NumGoroutine") = false) (hb : fn.body.isNone = false)
    (vs : Array Value) (hx : xs.map a.eval = vs) {R : Ending → World → Prop} (h : Calls P f vs w R) (k : ∀ e w', R e w' → ∃ v, e = .returned v ∧ K (a.put o.dst v) w') :
    if Region.wanted o (yielded ops a.tmps) = true then Oper.wp P o a w K Q else E := by
  subst hx
  rw [if_pos hw]
  have hrun : (execOp a.eval o).run P w = .ok (.enter f (xs.map a.eval)) w := by
    have h1 : ¬ fn.name = "runtime.NumGoroutine" := by simpa using hn
    have h2 : ¬ fn.body = none := by intro q; rw [q] at hb; cases hb
    simp [execOp, hop, resolve, invoke, Act.eval, Result.andThen, Deferred.ofValue, callFunc, hf, h1, h2]
  unfold Oper.wp
  rw [hrun]
  exact h.mono fun e w' hr => by obtain ⟨v, rfl, hk⟩ := k e w' hr; exact hk
theorem two_calls {iA iB : Nat} {oA oB : Oper} {dA dB fuel : Nat} {L : Array Bool} {a : Act} {w : World} {A B : Value → World → Prop} (r0 : Region.ready .any ops L = [iA, iB]) (r1 : Region.ready .any ops (L.setIfInBounds iA true) = [iB]) (r2 : Region.ready .any ops (L.setIfInBounds iB true) = [iA]) (hne : iA ≠ iB) (hdd : dA ≠ dB)
    (hA : ops[iA]? = some oA) (hB : ops[iB]? = some oB) (gA : ∀ u, Region.wanted oA (yielded ops (a.put (some dB) u).tmps) = true) (gB : ∀ u, Region.wanted oB (yielded ops (a.put (some dA) u).tmps) = true) (gA0 : Region.wanted oA (yielded ops a.tmps) = true) (gB0 : Region.wanted oB (yielded ops a.tmps) = true) (eA : oA.dst = some dA) (eB : oB.dst = some dB)
    (f : FuncId) (fn : Func) (xs : Array Operand) (ts : Array TypeId) (hop : oA.op = .call { callee := .value (.func f), args := xs, argTypes := ts })
    (hf : P.funcs[f]? = some fn) (hn : (fn.name == "runtime.NumGoroutine") = false) (hb : fn.body.isNone = false) (vs : Array Value) (hx : xs.map a.eval = vs) (hx' : ∀ u, xs.map (a.put (some dB) u).eval = vs)
    (f' : FuncId) (fn' : Func) (xs' : Array Operand) (ts' : Array TypeId) (hop' : oB.op = .call { callee := .value (.func f'), args := xs', argTypes := ts' })
    (hf' : P.funcs[f']? = some fn') (hn' : (fn'.name == "runtime.NumGoroutine") = false) (hb' : fn'.body.isNone = false) (vs' : Array Value) (hy : xs'.map a.eval = vs') (hy' : ∀ u, xs'.map (a.put (some dA) u).eval = vs')
    (stA : ∀ u v v', A u v → Below v.heap.size v v' → A u v') (stB : ∀ u v v', B u v → Below v.heap.size v v' → B u v')
    (hcA : ∀ v, Below w.heap.size w v → Calls P f vs v fun e w' => ∃ u, e = .returned u ∧ A u w' ∧ Below v.heap.size v w')
    (hcB : ∀ v, Below w.heap.size w v → Calls P f' vs' v fun e w' => ∃ u, e = .returned u ∧ B u w' ∧ Below v.heap.size v w')
    (hS : ∀ v, Below w.heap.size w v → S v)
    (fin : ∀ uA uB w', A uA w' → B uB w' → Below w.heap.size w w' → wpAnyH P .any ops Q S fuel ((L.setIfInBounds iA true).setIfInBounds iB true) ((a.put (some dA) uA).put (some dB) uB) w') :
    wpAnyH P .any ops Q S (fuel + 2) L a w := by
  refine wpAnyH_step r0 (by simp) fun j hj => ?_
  simp only [List.mem_cons, List.not_mem_nil, or_false] at hj
  have refl := Below.refl w.heap.size w
  rcases hj with rfl | rfl
  · refine wpOp_of_if hA (step_call3 gA0 f fn xs ts hop hf hn hb vs hx (hcA w refl) fun e w1 hR => ?_)
    obtain ⟨u, he, h1, h2⟩ := hR
    refine ⟨u, he, hS _ h2, ?_⟩
    rw [eA]
    refine wpAnyH_step r1 (by simp) fun k hk => ?_
    obtain rfl : k = iB := by simpa using hk
    refine wpOp_of_if hB (step_call3 (gB u) f' fn' xs' ts' hop' hf' hn' hb' vs' (hy' u) (hcB w1 h2) fun e w2 hR => ?_)
    obtain ⟨u', he', h3, h4⟩ := hR
    have h5 := h2.trans (h4.mono h2.size)
    refine ⟨u', he', hS _ h5, ?_⟩
    rw [eB]
    exact fin u u' w2 (stA _ _ _ h1 h4) h3 h5
  · refine wpOp_of_if hB (step_call3 gB0 f' fn' xs' ts' hop' hf' hn' hb' vs' hy (hcB w refl) fun e w1 hR => ?_)
    obtain ⟨u, he, h1, h2⟩ := hR
    refine ⟨u, he, hS _ h2, ?_⟩
    rw [eB]
    refine wpAnyH_step r2 (by simp) fun k hk => ?_
    obtain rfl : k = iA := by simpa using hk
    refine wpOp_of_if hA (step_call3 (gA u) f fn xs ts hop hf hn hb vs (hx' u) (hcA w1 h2) fun e w2 hR => ?_)
    obtain ⟨u', he', h3, h4⟩ := hR
    have h5 := h2.trans (h4.mono h2.size)
    refine ⟨u', he', hS _ h5, ?_⟩
    rw [eA, Array.setIfInBounds_comm _ _ (Ne.symm hne), Act.put_comm a _ _ (fun d hd q => by cases hd; cases q; exact hdd rfl)]
    exact fin u' u w2 h3 (stB _ _ _ h1 h4) h5
theorem step_calls_e {i : Nat} {o : Oper} {d fuel : Nat} {L : Array Bool} {a : Act} {w : World} (hr : Region.ready .any ops L = [i]) (hi : ops[i]? = some o) (hg : Region.wanted o (yielded ops a.tmps) = true) (hd : o.dst = some d) (f : FuncId) (fn : Func) (xs : Array Operand) (ts : Array TypeId) (hop : o.op = .call { callee := .value (.func f), args := xs, argTypes := ts })
    (hf : P.funcs[f]? = some fn) (hn : (fn.name == "runtime.NumGoroutine") = false) (hb : fn.body.isNone = false) (vs : Array Value) (hx : xs.map a.eval = vs) {A : Value → World → Prop} (hc : Calls P f vs w fun e w' => ∃ u, e = .returned u ∧ A u w' ∧ Below w.heap.size w w')
    (h : ∀ u w', A u w' → Below w.heap.size w w' → S w' ∧ wpAnyH P .any ops Q S fuel (L.setIfInBounds i true) (a.put (some d) u) w') : wpAnyH P .any ops Q S (fuel + 1) L a w :=
  wpAnyH_step hr (by simp) fun j hj => by
    obtain rfl : j = i := by simpa using hj
    refine wpOp_of_if hi (step_call3 hg f fn xs ts hop hf hn hb vs hx hc fun e w' hR => ?_)
    obtain ⟨u, he, h1, h2⟩ := hR
    have := h u w' h1 h2
    exact ⟨u, he, this.1, hd ▸ this.2⟩
end
end Go.Proofs.Ythddacgdmngfhaa.kit
