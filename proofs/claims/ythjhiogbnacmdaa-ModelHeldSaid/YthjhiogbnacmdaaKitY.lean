/- General words, over any program: a call of two results beside a struct made, in a region that draws its order (KitT's way). -/
import Derived.Test.YthjhiogbnacmdaaKitX
namespace Go.Proofs.Ythjhiogbnacmdaa.kit
open Go.ChangeShapes Go.WideShapes Go.ChangeAt Go.RowKit
section
variable {P : Program} {ops : Array Oper} {Q : Exit → Act → World → Prop} {S : World → Prop}
theorem run_extract {oi : Oper} {a : Act} {x : Operand} {k : Nat} {t u : Value} {v : World} (ho : oi.op = .extract x k) (hx : a.eval x = t) (hr : (Instr.extract t k).run P v = .ok u v) : (execOp a.eval oi).run P v = .ok (.value u) v := by
  unfold execOp
  simp only [ho, hx, Sem.run_bind, Sem.run_pure, Result.andThen_ok, hr]
theorem run_store_at {w : World} {h o : Nat} (ty : TypeId) {old cs : Array Value} (C : Cel w h o old) (hi : (P.info? ty).map (·.size) = some cs.size)
    (hs : old.size = cs.size) (h1 : cs.all (·.oneCell') = true) :
    (Instr.storeAt ty (.pointer (some ⟨h, o, none⟩)) (.agg cs)).run P w = .ok () (w.setCells h o cs.toList) := by
  simp only [Instr.storeAt, Instr.sureAddr, Sem.run_bind, Sem.run_pure, Result.andThen_ok, run_storeVar_at ty C hi hs h1]
/-- Two that may come in either order: a call, and what makes memory. -/
theorem call_make {iC iM : Nat} {oC oM : Oper} {dC dM fuel : Nat} {L : Array Bool} {a : Act} {w : World} {o : Obj} (r0 : Region.ready .any ops L = [iC, iM]) (r1 : Region.ready .any ops (L.setIfInBounds iM true) = [iC]) (r2 : (Region.ready .any ops (L.setIfInBounds iC true)).contains iM = true) (hne : iC ≠ iM) (hdd : dC ≠ dM)
    (hC : ops[iC]? = some oC) (hM : ops[iM]? = some oM) (gC : oC.guard = none) (gM : oM.guard = none) (eC : oC.dst = some dC) (eM : oM.dst = some dM)
    (f : FuncId) (fn : Func) (xs : Array Operand) (ts : Array TypeId) (hop : oC.op = .call { callee := .value (.func f), args := xs, argTypes := ts })
    (hf : P.funcs[f]? = some fn) (hn : (fn.name == "runtime.NumGoroutine") = false) (hb : fn.body.isNone = false) (vs : Array Value) (hx : xs.map a.eval = vs) (hx' : ∀ u, xs.map (a.put (some dM) u).eval = vs) {R : World → Ending → World → Prop}
    (hc : Calls P f vs w (R w)) (hc' : Calls P f vs (w.alloc o) (R (w.alloc o)))
    (rM : ∀ (b : Act) (v : World), (execOp b.eval oM).run P v = .ok (.value (.pointer (some ⟨v.heap.size, 0, none⟩))) (v.alloc o)) (hS : S (w.alloc o))
    (h1 : ∀ e w', R w e w' → ∃ v, e = .returned v ∧ S w' ∧ wpAnyH P .any ops Q S fuel (L.setIfInBounds iC true) (a.put (some dC) v) w')
    (h2 : ∀ e w', R (w.alloc o) e w' → ∃ v, e = .returned v ∧ S w' ∧ wpAnyH P .any ops Q S (fuel - 1) ((L.setIfInBounds iC true).setIfInBounds iM true) ((a.put (some dC) v).put (some dM) (.pointer (some ⟨w.heap.size, 0, none⟩))) w') (hfu : 0 < fuel) :
    wpAnyH P .any ops Q S (fuel + 1) L a w := by
  refine wpAnyH_step r0 (by simp) fun j hj => ?_
  simp only [List.mem_cons, List.not_mem_nil, or_false] at hj
  rcases hj with rfl | rfl
  · refine wpOp_of_if hC (step_call2 gC f fn xs ts hop hf hn hb vs hx hc fun e w' hR => ?_)
    obtain ⟨v, he, q1, q2⟩ := h1 e w' hR
    exact ⟨v, he, q1, eC ▸ q2⟩
  · refine wpOp_of hM gM ?_
    unfold Oper.wp
    rw [rM]
    simp only [Oper.upon]
    rw [eM]
    refine ⟨hS, ?_⟩
    obtain ⟨fl, rfl⟩ : ∃ fl, fuel = fl + 1 := ⟨fuel - 1, by omega⟩
    refine step_calls r1 hC gC eC f fn xs ts hop hf hn hb vs (hx' _) hc' fun e w' hR => ?_
    obtain ⟨v, he, q1, q2⟩ := h2 e w' hR
    refine ⟨v, he, q1, ?_⟩
    rw [Array.setIfInBounds_comm _ _ (Ne.symm hne), Act.put_comm a _ _ (fun d hd q => by cases hd; cases q; exact hdd rfl)]
    exact q2
theorem run_cmp_int {oi : Oper} {a : Act} {x y : Operand} {tx ty : TypeId} {k : IntKind} {p q : Int} {u : Value} {v : World} {op : BinOp} (ho : oi.op = .binOp op tx x y ty) (hop : op = .neq ∨ op = .eql) (hx : a.eval x = .int k p) (hy : a.eval y = .int k q) (hr : (binOp op tx (.int k p) (.int k q)).run P v = .ok u v) : (execOp a.eval oi).run P v = .ok (.value u) v := by
  unfold execOp
  rcases hop with rfl | rfl <;> simp [ho, hx, hy, eqGuard, hr]
theorem run_cmp_bool {oi : Oper} {a : Act} {x y : Operand} {tx ty : TypeId} {p q : Bool} {u : Value} {v : World} {op : BinOp} (ho : oi.op = .binOp op tx x y ty) (hop : op = .neq ∨ op = .eql) (hx : a.eval x = .bool p) (hy : a.eval y = .bool q) (hr : (binOp op tx (.bool p) (.bool q)).run P v = .ok u v) : (execOp a.eval oi).run P v = .ok (.value u) v := by
  unfold execOp
  rcases hop with rfl | rfl <;> simp [ho, hx, hy, eqGuard, hr]
theorem run_pick {oi : Oper} {a : Act} {c x y : Operand} {b : Bool} {u : Value} {v : World} (ho : oi.op = .pick c x y) (hc : a.eval c = .bool b) (hu : (if b then a.eval x else a.eval y) = u) : (execOp a.eval oi).run P v = .ok (.value u) v := by
  unfold execOp
  rw [ho]
  subst hu
  cases b <;> simp [hc, asBool]
theorem run_lens {oi : Oper} {a : Act} {x : Operand} {tx : TypeId} {s u : Value} {v : World} (ho : oi.op = .call { callee := .builtin .len, args := #[x], argTypes := #[tx] }) (hx : a.eval x = s) (hr : ∀ cs, (builtin .len #[tx] oi.type cs #[s]).run P v = .ok (.value u) v) : (execOp a.eval oi).run P v = .ok (.value u) v := by
  unfold execOp
  simp [ho, resolve, invoke, hx, hr]
theorem wanted_of {o ok : Oper} {k : Nat} {bb : Bool} {d : Nat} {a : Act} (hg : o.guard = some (k, bb)) (hk : ops[k]? = some ok) (hd : ok.dst = some d) (he : a.eval (.tmp d) = .bool bb) : Region.wanted o (yielded ops a.tmps) = true := by
  have h : a.tmps[d]? = some (.bool bb) := by
    have he' : a.tmps.getD d undef = .bool bb := he
    rw [Array.getD_eq_getD_getElem?] at he'
    cases hq : a.tmps[d]? with
    | none => rw [hq] at he'; cases he'
    | some u => rw [hq] at he'; exact congrArg some he'
  simp [Region.wanted, hg, yielded, hk, hd, h]
theorem take_run_g {i : Nat} {oi : Oper} {u : Value} {d : Nat} {fuel : Nat} {L : Array Bool} {a : Act} {w : World} (hi : ops[i]? = some oi) (hs : Region.noSelect ops = true) (hf : Region.free .any ops L i = true) (hr : (Region.ready .any ops L).contains i = true)
    (hg : Region.wanted oi (yielded ops a.tmps) = true) (hd : oi.dst = some d) (hQ : ∀ c a w, Q (.panic c) (a.put oi.dst u) w → Q (.panic c) a w) (hS : S w) (hrun : ∀ v, S v → (execOp a.eval oi).run P v = .ok (.value u) v)
    (h : wpAnyH P .any ops Q S fuel (L.setIfInBounds i true) (a.put (some d) u) w) : wpAnyH P .any ops Q S (fuel + 1) L a w :=
  wpAnyH_take hi hs hf hr hQ (.inl ⟨hg, hrun⟩) hS (hd ▸ h)
theorem step_calls_g {i : Nat} {o : Oper} {d fuel : Nat} {L : Array Bool} {a : Act} {w : World} (hr : Region.ready .any ops L = [i]) (hi : ops[i]? = some o) (hg : Region.wanted o (yielded ops a.tmps) = true) (hd : o.dst = some d) (f : FuncId) (fn : Func) (xs : Array Operand) (ts : Array TypeId) (hop : o.op = .call { callee := .value (.func f), args := xs, argTypes := ts })
    (hf : P.funcs[f]? = some fn) (hn : (fn.name == "runtime.NumGoroutine") = false) (hb : fn.body.isNone = false) (vs : Array Value) (hx : xs.map a.eval = vs) {v : Value} {R : World → Prop} (hc : Calls P f vs w fun e w' => e = .returned v ∧ R w')
    (h : ∀ w', R w' → S w' ∧ wpAnyH P .any ops Q S fuel (L.setIfInBounds i true) (a.put (some d) v) w') : wpAnyH P .any ops Q S (fuel + 1) L a w :=
  wpAnyH_step hr (by simp) fun j hj => by
    obtain rfl : j = i := by simpa using hj
    refine wpOp_of_if hi (step_callg hg f fn xs ts hop hf hn hb vs hx hc fun w' hR => ?_)
    have := h w' hR
    exact ⟨this.1, hd ▸ this.2⟩
end
end Go.Proofs.Ythjhiogbnacmdaa.kit
