/- General words, over any program: a region that draws its order and appends twice: 'q = append(append([]T{}, src...), item)'. -/
import Derived.Test.YthjhiogbnacmdaaKitD
import Derived.Great.Frames
import Derived.Maps.AppendAt
import Derived.Laws.OwnMore
import Derived.Deep.RegionHeld3
import Derived.Deep.AppendLies
namespace Go.Proofs.Ythjhiogbnacmdaa.kit
open Go.ChangeShapes Go.WideShapes Go.ChangeAt Go.RowKit

section
variable {P : Program} {ops : Array Oper} {Q : Exit → Act → World → Prop} {S : World → Prop}

/-- 'append(v, src...)', src a row of one's own, or nil. -/
theorem run_append_src {w : World} (t ty : TypeId) {e : TypeId} {i : TypeInfo} {z : Value} {size bytes base bq n m : Nat} (ht : P.underlying t = some (.slice e)) (hi : P.info? e = some i) (hz : i.zero = some z)
    (hsize : i.size = size) (hby : i.bytes = bytes) (hzs : z.cells.size = size) (hsz : 0 < size)
    {v sv : Value} {xs cells : List Value} (hown : w.ownsRow base e size v n xs) (hsrc : w.ownsRow bq e size sv m cells) (h1 : ∀ u ∈ cells, u.oneCell' = true)
    (h63 : n + m ≤ maxLen) (hbytes : (n + m) * bytes ≤ 140737488355328) (hbase : base ≤ w.heap.size) :
    ∃ v' w', (Builtin.append_ #[t, t] ty #[v, sv]).run P w = .ok v' w' ∧ w'.ownsRow base e size v' (n + m) (xs ++ cells) ∧ w.grownBy w' v.ownBlock ∧ (v'.ownBlock = v.ownBlock ∨ v'.ownBlock = some w.heap.size) := by
  rcases hsrc.2 with ⟨rfl, rfl⟩ | ⟨g, cap, cur, rfl, _⟩
  · have hc : cells = [] := List.length_eq_zero_iff.1 (by rw [hsrc.1, Nat.zero_mul])
    subst hc
    exact ⟨v, w, run_append_owned_none (P := P) w base t ty e i size ht hi v n xs hown, by simpa using hown, ⟨rfl, rfl, rfl, Nat.le_refl _, fun _ _ _ => rfl⟩, .inl rfl⟩
  · have C := Cel.of_owns hsrc
    obtain ⟨v', w', hr, h2, h3, _, h5⟩ := run_append_own_at (P := P) w base t ty e i z size bytes ht hi hz hsize hby hzs hsz v n xs hown ⟨g, 0, none⟩ m cap cells hsrc.1 (fun j u hu => by
      rw [show (⟨g, 0, none⟩ : Addr).add j = ⟨g, j, none⟩ by unfold Addr.add; split <;> simp_all]
      exact C.cell0 j (by simpa using hu)) h1 h63 hbytes hbase
    exact ⟨v', w', hr, h2, h3, h5⟩
theorem wp_append_src {o : Oper} {a : Act} {w : World} {K : Act → World → Prop} (s x : Operand) (t : TypeId)
    (ho : o.op = .call { callee := .builtin .append, args := #[s, x], argTypes := #[t, t] }) {v sv v' : Value} {w' : World} (hs : a.eval s = v) (hx : a.eval x = sv)
    (hr : (Builtin.append_ #[t, t] o.type #[v, sv]).run P w = .ok v' w') (h : K (a.put o.dst v') w') : o.wp P a w K Q := by
  unfold Oper.wp execOp
  simp only [ho, resolve, invoke, builtin, Sem.run_bind, Sem.run_pure, Result.andThen_ok, List.map_toArray, List.map_cons, List.map_nil, hs, hx, hr]
  exact h
theorem wpOp_of {i : Nat} {o : Oper} {K : Act → World → Prop} {a : Act} {w : World} (hi : ops[i]? = some o) (hg : o.guard = none) (h : o.wp P a w K Q) : wpOp P ops Q i K a w := by
  unfold wpOp
  simp only [hi, Region.wanted, hg]
  exact .inl h
theorem wpOp_of_if {i : Nat} {o : Oper} {K : Act → World → Prop} {a : Act} {w : World} (hi : ops[i]? = some o) (h : if Region.wanted o (yielded ops a.tmps) = true then o.wp P a w K Q else K (a.put o.dst undef) w) : wpOp P ops Q i K a w := by
  unfold wpOp
  simp only [hi]
  by_cases hw : Region.wanted o (yielded ops a.tmps) = true
  · rw [if_pos hw] at h ⊢
    exact .inl h
  · rw [if_neg hw] at h ⊢
    exact h
theorem wp_val {o : Oper} {a : Act} {w w' : World} {K : Act → World → Prop} {u : Value} {d : Nat} (hr : (execOp a.eval o).run P w = .ok (.value u) w') (hd : o.dst = some d) (h : K (a.put (some d) u) w') : o.wp P a w K Q := by
  unfold Oper.wp
  rw [hr]
  simp only [Oper.upon]
  rw [hd]
  exact h
theorem wp_store1 {o : Oper} {a : Act} {w w' : World} {K : Act → World → Prop} {x y : Operand} {ty : TypeId} {p u : Value} (ho : o.op = .store ty x y) (hd : o.dst = none) (hx : a.eval x = p) (hy : a.eval y = u) (hr : (Instr.storeAt ty p u).run P w = .ok () w') (h : K a w') : o.wp P a w K Q := by
  unfold Oper.wp execOp
  simp only [ho, hx, hy, Sem.run_bind, Sem.run_pure, Result.andThen_ok, hr, Oper.upon]
  rw [hd]
  exact h
/-- The orders in which a region's last operations may come: a first slice made, what is appended to it; another one made beside; the second append, and what takes it. -/
def dappB (ops : Array Oper) (L0 : Array Bool) (iE iM iB iA iL : Nat) : Bool :=
  Region.ready .any ops L0 == [iE, iB] && Region.ready .any ops (L0.setIfInBounds iE true) == [iM, iB] && Region.ready .any ops ((L0.setIfInBounds iE true).setIfInBounds iM true) == [iB]
    && Region.ready .any ops ((L0.setIfInBounds iE true).setIfInBounds iB true) == [iM] && Region.ready .any ops (L0.setIfInBounds iB true) == [iE]
    && Region.ready .any ops (((L0.setIfInBounds iE true).setIfInBounds iM true).setIfInBounds iB true) == [iA]
    && Region.ready .any ops ((((L0.setIfInBounds iE true).setIfInBounds iM true).setIfInBounds iB true).setIfInBounds iA true) == [iL]
    && Region.ready .any ops (((((L0.setIfInBounds iE true).setIfInBounds iM true).setIfInBounds iB true).setIfInBounds iA true).setIfInBounds iL true) == []
    && iE != iM && iE != iB && iM != iB
/-- The slots, all of them others. -/
def dappT (tE tM tB tA tq t1 tx n : Nat) : Bool :=
  tE != tM && tE != tB && tM != tB && tE != t1 && tE != tx && tM != tx && tB != t1 && decide (tE < n) && decide (tM < n) && decide (tB < n) && decide (tA < n) && decide (tq < n)
theorem wpAnyH_step {rs : List Nat} {fuel : Nat} {listed : Array Bool} {a : Act} {w : World} (hr : Region.ready .any ops listed = rs) (hne : rs ≠ [])
    (h : ∀ i ∈ rs, wpOp P ops Q i (fun a' w' => S w' ∧ wpAnyH P .any ops Q S fuel (listed.setIfInBounds i true) a' w') a w) : wpAnyH P .any ops Q S (fuel + 1) listed a w := wpAnyH_all hr hne h
theorem step_val {i : Nat} {o : Oper} {u : Value} {d fuel : Nat} {L : Array Bool} {a : Act} {w w' : World} (hr : Region.ready .any ops L = [i]) (hi : ops[i]? = some o) (hg : o.guard = none) (hd : o.dst = some d) (hS : S w') (hrun : (execOp a.eval o).run P w = .ok (.value u) w')
    (h : wpAnyH P .any ops Q S fuel (L.setIfInBounds i true) (a.put (some d) u) w') : wpAnyH P .any ops Q S (fuel + 1) L a w :=
  wpAnyH_step hr (by simp) fun j hj => by
    obtain rfl : j = i := by simpa using hj
    exact wpOp_of hi hg (wp_val hrun hd ⟨hS, h⟩)
theorem step_store {i : Nat} {o : Oper} {x y : Operand} {ty : TypeId} {p u : Value} {fuel : Nat} {L : Array Bool} {a : Act} {w w' : World} (hr : Region.ready .any ops L = [i]) (hi : ops[i]? = some o) (hg : o.guard = none) (ho : o.op = .store ty x y) (hd : o.dst = none) (hx : a.eval x = p) (hy : a.eval y = u) (hS : S w') (hrun : (Instr.storeAt ty p u).run P w = .ok () w')
    (h : wpAnyH P .any ops Q S fuel (L.setIfInBounds i true) a w') : wpAnyH P .any ops Q S (fuel + 1) L a w :=
  wpAnyH_step hr (by simp) fun j hj => by
    obtain rfl : j = i := by simpa using hj
    exact wpOp_of hi hg (wp_store1 ho hd hx hy hrun ⟨hS, h⟩)
theorem step_calls {i : Nat} {o : Oper} {d fuel : Nat} {L : Array Bool} {a : Act} {w : World} (hr : Region.ready .any ops L = [i]) (hi : ops[i]? = some o) (hg : o.guard = none) (hd : o.dst = some d) (f : FuncId) (fn : Func) (xs : Array Operand) (ts : Array TypeId) (hop : o.op = .call { callee := .value (.func f), args := xs, argTypes := ts })
    (hf : P.funcs[f]? = some fn) (hn : (fn.name == "runtime.NumGoroutine") = false) (hb : fn.body.isNone = false) (vs : Array Value) (hx : xs.map a.eval = vs) {R : Ending → World → Prop} (hc : Calls P f vs w R)
    (h : ∀ e w', R e w' → ∃ v, e = .returned v ∧ S w' ∧ wpAnyH P .any ops Q S fuel (L.setIfInBounds i true) (a.put (some d) v) w') : wpAnyH P .any ops Q S (fuel + 1) L a w :=
  wpAnyH_step hr (by simp) fun j hj => by
    obtain rfl : j = i := by simpa using hj
    refine wpOp_of_if hi (step_call2 hg f fn xs ts hop hf hn hb vs hx hc fun e w' hR => ?_)
    obtain ⟨v, he, h1, h2⟩ := h e w' hR
    exact ⟨v, he, h1, hd ▸ h2⟩
theorem wpAnyH_abs {fuel : Nat} {L : Array Bool} (a : Act) {w : World} (h : ∀ b : Act, b = a → wpAnyH P .any ops Q S fuel L b w) : wpAnyH P .any ops Q S fuel L a w := h a rfl
/-- An operation that yields in every world that meets S, taken first. -/
theorem take_run {i : Nat} {oi : Oper} {u : Value} {d : Nat} {fuel : Nat} {L : Array Bool} {a : Act} {w : World} (hi : ops[i]? = some oi) (hs : Region.noSelect ops = true) (hf : Region.free .any ops L i = true) (hr : (Region.ready .any ops L).contains i = true)
    (hg : oi.guard = none) (hd : oi.dst = some d) (hQ : ∀ c a w, Q (.panic c) (a.put oi.dst u) w → Q (.panic c) a w) (hS : S w) (hrun : ∀ v, S v → (execOp a.eval oi).run P v = .ok (.value u) v)
    (h : wpAnyH P .any ops Q S fuel (L.setIfInBounds i true) (a.put (some d) u) w) : wpAnyH P .any ops Q S (fuel + 1) L a w :=
  wpAnyH_take hi hs hf hr hQ (.inl ⟨by simp [Region.wanted, hg], hrun⟩) hS (hd ▸ h)
theorem run_move {oi : Oper} {a : Act} {x : Operand} {u : Value} (ho : oi.op = .move x) (hv : a.eval x = u) (v : World) : (execOp a.eval oi).run P v = .ok (.value u) v := by
  unfold execOp
  rw [ho]
  simp only [hv, Sem.run_bind, Sem.run_pure, Result.andThen_ok]
theorem run_field {oi : Oper} {a : Act} {x : Operand} {ty : TypeId} {f : Nat} {s u : Value} {v : World} (ho : oi.op = .fieldAddr ty x f) (hx : a.eval x = s) (hr : (Instr.fieldAt ty s f).run P v = .ok u v) : (execOp a.eval oi).run P v = .ok (.value u) v := by
  unfold execOp
  simp only [ho, hx, Sem.run_bind, Sem.run_pure, Result.andThen_ok, hr]
theorem run_index {oi : Oper} {a : Act} {x ix : Operand} {ty : TypeId} {s j u : Value} {v : World} (ho : oi.op = .indexAddr ty x ix) (hx : a.eval x = s) (hj : a.eval ix = j) (hr : (Instr.indexAt ty s j).run P v = .ok u v) : (execOp a.eval oi).run P v = .ok (.value u) v := by
  unfold execOp
  simp only [ho, hx, hj, Sem.run_bind, Sem.run_pure, Result.andThen_ok, hr]
theorem run_load1 {oi : Oper} {a : Act} {x : Operand} {ty : TypeId} {s u : Value} {v : World} (ho : oi.op = .load ty x) (hx : a.eval x = s) (hr : (Instr.loadAt ty s).run P v = .ok u v) : (execOp a.eval oi).run P v = .ok (.value u) v := by
  unfold execOp
  simp only [ho, hx, Sem.run_bind, Sem.run_pure, Result.andThen_ok, hr]
theorem run_build1 {oi : Oper} {a : Act} {x : Operand} {ty : TypeId} {u s : Value} {v v' : World} (ho : oi.op = .buildSlice ty 1 #[(0, x)]) (hx : a.eval x = u) (hr : (Instr.buildSlice ty 1 #[(0, u)]).run P v = .ok s v') : (execOp a.eval oi).run P v = .ok (.value s) v' := by
  unfold execOp
  simp only [ho, List.map_toArray, List.map_cons, List.map_nil, hx, Sem.run_bind, Sem.run_pure, Result.andThen_ok, hr]
theorem run_load_at {oi : Oper} {a : Act} {x : Operand} {ty : TypeId} (ho : oi.op = .load ty x) {h off : Nat} (hx : a.eval x = .pointer (some ⟨h, off, none⟩)) {cs : Array Value} (d : TypeDesc) (hu : P.underlying ty = some d) (hd : (match d with | .struct _ | .array _ _ => true | _ => false) = true) (hi : (P.info? ty).map (·.size) = some cs.size)
    {v : World} (C : Cel v h off cs) : (execOp a.eval oi).run P v = .ok (.value (.agg cs)) v := by
  unfold execOp
  simp only [ho, hx, Instr.loadAt, Instr.sureAddr, Sem.run_bind, Sem.run_pure, Result.andThen_ok, run_loadVar_at ty d C hu hd hi]
theorem dapp {T SL : TypeId} {i0 : TypeInfo} {z : Value} {sz bytes g m bq : Nat} {sv xv : Value} {cells : List Value} {ITEM : Array Value} {fuel : Nat} {L0 : Array Bool} {a : Act} {w : World}
    (iE iM iB iA iL : Nat) (oE oM oB oA oL : Oper) (tE tM tB tA tq t1 tx : Nat)
    (hd : dappB ops L0 iE iM iB iA iL = true) (htm : dappT tE tM tB tA tq t1 tx a.tmps.size = true)
    (hE : ops[iE]? = some oE) (hM : ops[iM]? = some oM) (hB : ops[iB]? = some oB) (hA : ops[iA]? = some oA) (hL : ops[iL]? = some oL)
    (gE : oE.guard = none ∧ oE.dst = some tE) (gM : oM.guard = none ∧ oM.dst = some tM) (gB : oB.guard = none ∧ oB.dst = some tB) (gA : oA.guard = none ∧ oA.dst = some tA) (gL : oL.guard = none ∧ oL.dst = some tq)
    (oM' : oM.op = .call { callee := .builtin .append, args := #[.tmp tE, .tmp t1], argTypes := #[SL, SL] }) (oA' : oA.op = .call { callee := .builtin .append, args := #[.tmp tM, .tmp tB], argTypes := #[SL, SL] }) (oL' : oL.op = .assign (.tmp tA))
    (rE : ∀ (b : Act) (v : World), (execOp b.eval oE).run P v = .ok (.value (.slice (some ⟨v.heap.size, 0, none⟩) 0 0)) (v.alloc (.cells #[] T)))
    (rB : ∀ (b : Act) (v : World), b.eval (.tmp tx) = xv → (execOp b.eval oB).run P v = .ok (.value (.slice (some ⟨v.heap.size, 0, none⟩) 1 1)) (v.alloc (.cells ITEM T)))
    (ht : P.underlying SL = some (.slice T)) (hi : P.info? T = some i0) (hz : i0.zero = some z) (hsize : i0.size = sz) (hby : i0.bytes = bytes) (hzs : z.cells.size = sz) (hsz : 0 < sz)
    (h1 : a.eval (.tmp t1) = sv) (hx : a.eval (.tmp tx) = xv) (src : w.ownsRow bq T sz sv m cells) (one1 : ∀ u ∈ cells, u.oneCell' = true) (oneI : ∀ u ∈ ITEM.toList, u.oneCell' = true) (hIT : ITEM.toList.length = 1 * sz)
    (h63 : m + 1 ≤ maxLen) (hbytes : (m + 1) * bytes ≤ 140737488355328) (hg : g ≤ w.heap.size) (hS : ∀ v : World, Below w.heap.size w v → S v)
    (fin : ∀ (vE vM vB : Value) (h c : Nat) (v : World), v.ownsRow g T sz (.slice (some ⟨h, 0, none⟩) (m + 1) c) (m + 1) (cells ++ ITEM.toList) → w.heap.size ≤ h → Below w.heap.size w v →
      Q .normal (((((a.put (some tE) vE).put (some tM) vM).put (some tB) vB).put (some tA) (.slice (some ⟨h, 0, none⟩) (m + 1) c)).put (some tq) (.slice (some ⟨h, 0, none⟩) (m + 1) c)) v) :
    wpAnyH P .any ops Q S (fuel + 5) L0 a w := by
  simp only [dappB, Bool.and_eq_true, beq_iff_eq, bne_iff_ne, ne_eq] at hd
  obtain ⟨⟨⟨⟨⟨⟨⟨⟨⟨⟨r0, r1⟩, r2⟩, r3⟩, r4⟩, r5⟩, r6⟩, r7⟩, nEM⟩, nEB⟩, nMB⟩ := hd
  simp only [dappT, Bool.and_eq_true, bne_iff_ne, ne_eq, decide_eq_true_eq] at htm
  obtain ⟨⟨⟨⟨⟨⟨⟨⟨⟨⟨⟨uEM, uEB⟩, uMB⟩, uE1⟩, uEx⟩, uMx⟩, uB1⟩, lE⟩, lM⟩, lB⟩, lA⟩, lq⟩ := htm
  -- what comes last
  have tail : ∀ (vE vM : Value) (bI : Nat) (v : World), v.ownsRow g T sz vM m cells → (∀ k, vM.ownBlock = some k → w.heap.size ≤ k) → Blk v bI T ITEM → Below w.heap.size w v →
      wpAnyH P .any ops Q S (fuel + 2) (((L0.setIfInBounds iE true).setIfInBounds iM true).setIfInBounds iB true) (((a.put (some tE) vE).put (some tM) vM).put (some tB) (.slice (some ⟨bI, 0, none⟩) 1 1)) v := by
    intro vE vM bI v own hge B bel
    refine wpAnyH_step r5 (by simp) fun i hi' => ?_
    obtain rfl : i = iA := by simpa using hi'
    refine wpOp_of hA gA.1 ?_
    obtain ⟨h, c, v', hr, own', grow, hat, hlt⟩ := run_append_lies (P := P) v SL oA.type g T i0 z sz bytes ht hi hz hsize hby hzs hsz vM m cells own ⟨bI, 0, none⟩ 1 1 ITEM.toList hIT (World.news_of_block B) oneI (by omega) h63 hbytes (by have := bel.size; omega) v.heap.size rfl
    have bel' : Below w.heap.size w v' := bel.grown grow (by have := bel.size; omega) hge
    refine wp_append_src (.tmp tM) (.tmp tB) SL oA' (by rw [Act.eval_put_ne _ _ _ _ (Ne.symm uMB), Act.eval_put_same _ _ _ (by rw [Act.size_put]; exact lM)]) (Act.eval_put_same _ _ _ (by rw [Act.size_put, Act.size_put]; exact lB)) hr ?_
    rw [gA.2]
    refine ⟨hS _ bel', wpAnyH_step r6 (by simp) fun i hi' => ?_⟩
    obtain rfl : i = iL := by simpa using hi'
    refine wpOp_of hL gL.1 ?_
    unfold Oper.wp execOp
    rw [oL']
    have hv : ((((a.put (some tE) vE).put (some tM) vM).put (some tB) (.slice (some ⟨bI, 0, none⟩) 1 1)).put (some tA) (.slice (some ⟨h, 0, none⟩) (m + 1) c)).eval (.tmp tA) = .slice (some ⟨h, 0, none⟩) (m + 1) c := Act.eval_put_same _ _ _ (by rw [Act.size_put, Act.size_put, Act.size_put]; exact lA)
    simp only [hv, Sem.run_bind, Sem.run_pure, Result.andThen_ok, Oper.upon]
    rw [gL.2]
    refine ⟨hS _ bel', wpAnyH_done r7 ?_ _⟩
    exact fin _ _ _ h c v' own' (hat.elim (hge h) (fun q => q ▸ bel.size)) bel'
  have refl := Below.refl w.heap.size w
  have belE : Below w.heap.size w (w.alloc (.cells #[] T)) := refl.alloc (Nat.le_refl _) _
  have belB : Below w.heap.size w (w.alloc (.cells ITEM T)) := refl.alloc (Nat.le_refl _) _
  have hm1 : 0 + m ≤ maxLen := by omega
  have hm2 : (0 + m) * bytes ≤ 140737488355328 := Nat.le_trans (Nat.mul_le_mul_right _ (by omega)) hbytes
  -- the first append, wherever it comes
  have first : ∀ (e : Nat) (v : World), Blk v e T #[] → w.heap.size ≤ e → Below w.heap.size w v → ∃ vM v', (Builtin.append_ #[SL, SL] oM.type #[.slice (some ⟨e, 0, none⟩) 0 0, sv]).run P v = .ok vM v' ∧ v'.ownsRow g T sz vM m cells ∧ v.grownBy v' (some e) ∧ (∀ k, vM.ownBlock = some k → w.heap.size ≤ k) ∧ Below w.heap.size w v' := by
    intro e v B he bel
    have own0 : v.ownsRow g T sz (.slice (some ⟨e, 0, none⟩) 0 0) 0 [] := own_none B (by omega) (by unfold maxLen; omega) (by simp)
    obtain ⟨vM, v', hr, own', grow, hat⟩ := run_append_src (P := P) SL oM.type ht hi hz hsize hby hzs hsz own0 (own_all src bel) one1 hm1 hm2 (by have := bel.size; omega)
    refine ⟨vM, v', hr, by simpa using own', grow, fun k hk => ?_, bel.grown grow (by have := bel.size; omega) (fun q hq => by simp [Value.ownBlock] at hq; omega)⟩
    rcases hat with q | q
    · rw [q] at hk; simp [Value.ownBlock] at hk; omega
    · rw [q] at hk; have := bel.size; simp at hk; omega
  refine wpAnyH_step r0 (by simp) fun i hi' => ?_
  simp only [List.mem_cons, List.not_mem_nil, or_false] at hi'
  rcases hi' with rfl | rfl
  · -- the first slice first
    refine wpOp_of hE gE.1 ?_
    unfold Oper.wp
    rw [rE]
    simp only [Oper.upon]
    rw [gE.2]
    refine ⟨hS _ belE, wpAnyH_step r1 (by simp) fun j hj => ?_⟩
    have B1 := Blk.new w T #[]
    simp only [List.mem_cons, List.not_mem_nil, or_false] at hj
    rcases hj with rfl | rfl
    · refine wpOp_of hM gM.1 ?_
      obtain ⟨vM, v', hr, own', grow, hge, bel'⟩ := first w.heap.size _ B1 (Nat.le_refl _) belE
      refine wp_append_src (.tmp tE) (.tmp t1) SL oM' (Act.eval_put_same _ _ _ lE) (by rw [Act.eval_put_ne _ _ _ _ uE1]; exact h1) hr ?_
      rw [gM.2]
      refine ⟨hS _ bel', wpAnyH_step r2 (by simp) fun j hj => ?_⟩
      obtain rfl : j = iB := by simpa using hj
      refine wpOp_of hB gB.1 ?_
      unfold Oper.wp
      rw [rB _ _ (by rw [Act.eval_put_ne _ _ _ _ uMx, Act.eval_put_ne _ _ _ _ uEx]; exact hx)]
      simp only [Oper.upon]
      rw [gB.2]
      have bel'' := bel'.alloc (by have := bel'.size; omega) (.cells ITEM T)
      exact ⟨hS _ bel'', tail _ _ _ _ (own_all own' ((Below.refl _ _).alloc (Nat.le_refl _) _)) hge (Blk.new _ _ _) bel''⟩
    · refine wpOp_of hB gB.1 ?_
      unfold Oper.wp
      rw [rB _ _ (by rw [Act.eval_put_ne _ _ _ _ uEx]; exact hx)]
      simp only [Oper.upon]
      rw [gB.2]
      have bel1 := belE.alloc (by simp) (.cells ITEM T)
      refine ⟨hS _ bel1, wpAnyH_step r3 (by simp) fun j hj => ?_⟩
      obtain rfl : j = iM := by simpa using hj
      refine wpOp_of hM gM.1 ?_
      obtain ⟨vM, v', hr, own', grow, hge, bel'⟩ := first w.heap.size _ (B1.alloc (.cells ITEM T)) (Nat.le_refl _) bel1
      have B2 : Blk v' (w.alloc (.cells #[] T)).heap.size T ITEM := (grow.block _ (by simp) (by simp)).trans (Blk.new (w.alloc (.cells #[] T)) T ITEM)
      refine wp_append_src (.tmp tE) (.tmp t1) SL oM' (by rw [Act.eval_put_ne _ _ _ _ (Ne.symm uEB)]; exact Act.eval_put_same _ _ _ lE) (by rw [Act.eval_put_ne _ _ _ _ uB1, Act.eval_put_ne _ _ _ _ uE1]; exact h1) hr ?_
      rw [gM.2, Array.setIfInBounds_comm _ _ (Ne.symm nMB), Act.put_comm _ _ _ (fun d hd q => by cases hd; cases q; exact uMB rfl)]
      exact ⟨hS _ bel', tail _ _ _ _ own' hge B2 bel'⟩
  · -- the item's slice first
    refine wpOp_of hB gB.1 ?_
    unfold Oper.wp
    rw [rB _ _ hx]
    simp only [Oper.upon]
    rw [gB.2]
    refine ⟨hS _ belB, wpAnyH_step r4 (by simp) fun j hj => ?_⟩
    obtain rfl : j = iE := by simpa using hj
    refine wpOp_of hE gE.1 ?_
    unfold Oper.wp
    rw [rE]
    simp only [Oper.upon]
    rw [gE.2]
    have bel1 := belB.alloc (by simp) (.cells #[] T)
    rw [Array.setIfInBounds_comm _ _ (Ne.symm nEB)]
    refine ⟨hS _ bel1, wpAnyH_step r3 (by simp) fun j hj => ?_⟩
    obtain rfl : j = iM := by simpa using hj
    refine wpOp_of hM gM.1 ?_
    obtain ⟨vM, v', hr, own', grow, hge, bel'⟩ := first _ _ (Blk.new (w.alloc (.cells ITEM T)) T #[]) (by simp) bel1
    have B2 : Blk v' w.heap.size T ITEM := (grow.block _ (by simp; omega) (by simp)).trans ((Blk.new w T ITEM).alloc (.cells #[] T))
    refine wp_append_src (.tmp tE) (.tmp t1) SL oM' (Act.eval_put_same _ _ _ (by rw [Act.size_put]; exact lE)) (by rw [Act.eval_put_ne _ _ _ _ uE1, Act.eval_put_ne _ _ _ _ uB1]; exact h1) hr ?_
    rw [gM.2, Array.setIfInBounds_comm _ _ (Ne.symm nMB), Act.put_comm a _ _ (fun d hd q => by cases hd; cases q; exact uEB rfl), Act.put_comm (a.put _ _) _ _ (fun d hd q => by cases hd; cases q; exact uMB rfl)]
    exact ⟨hS _ bel', tail _ _ _ _ own' hge B2 bel'⟩
end
end Go.Proofs.Ythjhiogbnacmdaa.kit
