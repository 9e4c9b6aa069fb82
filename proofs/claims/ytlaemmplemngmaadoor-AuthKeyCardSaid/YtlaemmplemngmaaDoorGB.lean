/- General words, over any program: in a region that draws its order, loads are taken first where what writes their cells waits for one operation that waits for them. -/
import Derived.OrdersHeld
import Derived.StillTail
import Derived.RegionTactic
import Derived.Lib.QuietBelow
import Derived.BigQuiet
import Derived.LoopTactic
import Derived.Deep.CutBlock
import Derived.Deep.DeepCutAuto
import Derived.Outline
import Derived.Test.YtlaemmplemngmaaDoorGA
namespace Go.Proofs.YtlaemmplemngmaaDoor.kit
section
variable {P : Program} {ops : Array Oper} {Q : Exit → Act → World → Prop} {md : Region.Mode} {S : World → Prop} {c : Nat}

/-- As wpAny; and until operation c has come up, S holds behind each operation. -/
def wpAnyC (P : Program) (md : Region.Mode) (ops : Array Oper) (Q : Exit → Act → World → Prop) (S : World → Prop) (c : Nat) : Nat → Array Bool → Act → World → Prop
  | 0, listed, a, w => Region.ready md ops listed = [] ∧ Q .normal a w
  | fuel + 1, listed, a, w =>
    (Region.ready md ops listed = [] → Q .normal a w) ∧
    ∀ i ∈ Region.ready md ops listed, wpOp P ops Q i (fun a' w' => (i ≠ c → listed.getD c true = false → S w') ∧ wpAnyC P md ops Q S c fuel (listed.setIfInBounds i true) a' w') a w
theorem wpAny_of_C : ∀ (fuel : Nat) (listed : Array Bool) (a : Act) (w : World), wpAnyC P md ops Q S c fuel listed a w → wpAny P md ops Q fuel listed a w
  | 0, _, _, _, h => h
  | fuel + 1, _, _, _, h => ⟨h.1, fun i hi => wpOp_mono (fun a' w' h' => wpAny_of_C fuel _ a' w' h'.2) (h.2 i hi)⟩
theorem getD_set_keep {listed : Array Bool} {i c : Nat} (h : listed.getD c true = true) : (listed.setIfInBounds i true).getD c true = true := by
  by_cases hic : i = c
  · subst hic
    rcases Nat.lt_or_ge i listed.size with h' | h'
    · simp [h']
    · simp [Array.getElem?_eq_none h']
  · rw [getD_set_ne true hic]; exact h
theorem wpAnyC_of_any : ∀ (fuel : Nat) (listed : Array Bool) (a : Act) (w : World), listed.getD c true = true → wpAny P md ops Q fuel listed a w → wpAnyC P md ops Q S c fuel listed a w
  | 0, _, _, _, _, h => h
  | fuel + 1, listed, _, _, hc, h => ⟨h.1, fun i hi => wpOp_mono (fun a' w' h' => ⟨fun _ hf => (by rw [hc] at hf; cases hf), wpAnyC_of_any fuel _ a' w' (getD_set_keep hc) h'⟩) (h.2 i hi)⟩
/-- What has come up has what it waits for behind it. -/
def Closed (md : Region.Mode) (ops : Array Oper) (listed : Array Bool) : Prop :=
  ∀ j oj, ops[j]? = some oj → listed.getD j false = true → ∀ e ∈ oj.after, Region.binds md e = true → listed.getD e.on false = true
def closedB (md : Region.Mode) (ops : Array Oper) (listed : Array Bool) : Bool :=
  (List.range ops.size).all fun j => !listed.getD j false || (match ops[j]? with | some oj => oj.after.all fun e => !Region.binds md e || listed.getD e.on false | none => true)
theorem closed_of {listed : Array Bool} (h : closedB md ops listed = true) : Closed md ops listed := by
  intro j oj hj hl e he hb
  have hlt := (Array.getElem?_eq_some_iff.1 hj).1
  have h1 := List.all_eq_true.1 h j (List.mem_range.2 hlt)
  rw [hl, hj] at h1
  simp only [Bool.not_true, Bool.false_or] at h1
  have h2 := Array.all_eq_true'.1 h1 e he
  rw [hb] at h2
  simpa using h2
theorem Closed.set {listed : Array Bool} {i : Nat} (inv : Closed md ops listed) (hi : i ∈ Region.ready md ops listed) : Closed md ops (listed.setIfInBounds i true) := by
  obtain ⟨_, oi, hoi, hall⟩ := mem_ready.1 hi
  intro j oj hj hl e he hb
  by_cases hij : i = j
  · subst hij
    have : oj = oi := Option.some.inj (hj.symm.trans hoi)
    subst this
    exact getD_set_true (hall e he hb)
  · rw [getD_set_ne false hij] at hl
    exact getD_set_true (inv j oj hj hl e he hb)
theorem wait_un {listed : Array Bool} {x y : Nat} (inv : Closed md ops listed) (hw : Region.waitsFor md ops y x = true) (hx : listed.getD x false = false) : listed.getD y false = false ∧ y ∉ Region.ready md ops listed := by
  obtain ⟨oy, hoy, e, he, hb, hon⟩ := Region.waitsFor_spec hw
  constructor
  · cases hl : listed.getD y false with
    | false => rfl
    | true =>
      have := inv y oy hoy hl e he hb
      rw [hon, hx] at this
      cases this
  · intro hr
    obtain ⟨_, o', ho', hall⟩ := mem_ready.1 hr
    have : o' = oy := Option.some.inj (ho'.symm.trans hoy)
    subst this
    have := hall e he hb
    rw [hon, hx] at this
    cases this
/-- A way of waiting, from x up to c. -/
def pathB (md : Region.Mode) (ops : Array Oper) (c : Nat) : Nat → List Nat → Bool
  | x, [] => Region.waitsFor md ops c x
  | x, y :: p => Region.waitsFor md ops y x && pathB md ops c y p
theorem path_un {listed : Array Bool} (inv : Closed md ops listed) : ∀ (p : List Nat) (x : Nat), pathB md ops c x p = true → listed.getD x false = false → listed.getD c false = false ∧ c ∉ Region.ready md ops listed
  | [], _, h, hx => wait_un inv h hx
  | y :: p, x, h, hx => by
    simp only [pathB, Bool.and_eq_true] at h
    exact path_un inv p y h.2 (wait_un inv h.1 hx).1
theorem getD_false_of_true {listed : Array Bool} {i : Nat} (h : listed.getD i true = false) : listed.getD i false = false := by
  rcases Nat.lt_or_ge i listed.size with h' | h'
  · simp [h'] at h ⊢; exact h
  · simp [Array.getElem?_eq_none h']
theorem getD_true_of_false {listed : Array Bool} {i : Nat} (hi : i < listed.size) (h : listed.getD i false = false) : listed.getD i true = false := by
  simp [hi] at h ⊢; exact h
/-- An operation that c waits for may be taken first, if it yields its value in every world that meets S. -/
theorem wpAnyC_first {i : Nat} {oi : Oper} {v : Value} {p : List Nat} (hi : ops[i]? = some oi) (hsel : ∀ (j : Nat) (o : Oper) cs b, ops[j]? = some o → o.op ≠ .select cs b)
    (hQ : ∀ c a w, Q (.panic c) (a.put oi.dst v) w → Q (.panic c) a w) (hp : pathB md ops c i p = true) :
    ∀ (fuel : Nat) (listed : Array Bool) (a : Act) (w : World),
      (∀ j oj, ops[j]? = some oj → j ≠ i → listed.getD j true = false → (∀ e ∈ oj.after, Region.binds md e = true → e.on ≠ i) → oi.apart ops oj = true) →
      i ∈ Region.ready md ops listed → Closed md ops listed → c < listed.size → YieldsIf P ops S oi v a → S w →
      wpAnyC P md ops Q S c fuel (listed.setIfInBounds i true) (a.put oi.dst v) w → wpAnyC P md ops Q S c (fuel + 1) listed a w := by
  intro fuel
  induction fuel with
  | zero =>
    intro listed a w _ hr inv hcs hy hS H
    refine ⟨fun h => (by rw [h] at hr; cases hr), fun j hj => ?_⟩
    by_cases hji : j = i
    · subst hji; exact hy.wpOp hi hS ⟨fun _ _ => hS, H⟩
    · have := ready_mono hj hji
      rw [H.1] at this
      cases this
  | succ fuel ih =>
    intro listed a w hfree hr inv hcs hy hS H
    have hiu : listed.getD i true = false := (mem_ready.1 hr).1
    have hun := path_un inv p i hp (getD_false_of_true hiu)
    have hic : i ≠ c := fun e => by subst e; exact hun.2 hr
    refine ⟨fun h => (by rw [h] at hr; cases hr), fun j hj => ?_⟩
    by_cases hji : j = i
    · subst hji; exact hy.wpOp hi hS ⟨fun _ _ => hS, H⟩
    · have hjc : j ≠ c := fun e => by subst e; exact hun.2 hj
      have h1 := H.2 j (ready_mono hj hji)
      obtain ⟨hjun, oj, hoj, hall⟩ := mem_ready.1 hj
      have hnot : ∀ e ∈ oj.after, Region.binds md e = true → e.on ≠ i := fun e he hb heq => by
        have h1 := hall e he hb
        rw [heq, getD_false_of_true hiu] at h1
        cases h1
      have h2 := wpOp_putIf hoj (hfree j oj hoj hji hjun hnot) (fun cs b => hsel i oi cs b hi) (fun cs b => hsel j oj cs b hoj) hQ hy h1
      have hfree' : ∀ k ok, ops[k]? = some ok → k ≠ i → (listed.setIfInBounds j true).getD k true = false →
          (∀ e ∈ ok.after, Region.binds md e = true → e.on ≠ i) → oi.apart ops ok = true := fun k ok hk hki hun hno => by
        refine hfree k ok hk hki ?_ hno
        by_cases hjk : j = k
        · subst hjk; exact hjun
        · rw [getD_set_ne true hjk] at hun; exact hun
      have hcu : (listed.setIfInBounds i true).getD c true = false := by rw [getD_set_ne true hic]; exact getD_true_of_false hcs hun.1
      refine wpOp_mono (fun a' w' h3 => ⟨fun _ _ => h3.2.1 hjc hcu, ih (listed.setIfInBounds j true) a' w' hfree' (ready_mono hr (Ne.symm hji)) (inv.set hj) (by simpa using hcs) h3.1 (h3.2.1 hjc hcu) ?_⟩) h2
      rw [Array.setIfInBounds_comm _ _ hji]
      exact h3.2.2
theorem wpAnyC_take {i : Nat} {oi : Oper} {v : Value} {fuel : Nat} {listed : Array Bool} {a : Act} {w : World} (p : List Nat) (hi : ops[i]? = some oi)
    (hs : Region.noSelect ops = true) (hf : Region.free md ops listed i = true) (hr : (Region.ready md ops listed).contains i = true) (hc : closedB md ops listed = true) (hp : pathB md ops c i p = true) (hcs : c < listed.size)
    (hQ : ∀ c a w, Q (.panic c) (a.put oi.dst v) w → Q (.panic c) a w) (hS : S w) (hy : YieldsIf P ops S oi v a)
    (h : wpAnyC P md ops Q S c fuel (listed.setIfInBounds i true) (a.put oi.dst v) w) : wpAnyC P md ops Q S c (fuel + 1) listed a w :=
  wpAnyC_first hi (Region.noSelect_spec hs) hQ hp fuel listed a w (Region.free_spec hi hf) (by simpa using hr) (closed_of hc) hcs hy hS h
/-- An operation that yields its value in whatever world may be taken first. -/
theorem wpAnyC_firstY {i : Nat} {oi : Oper} {v : Value} (hi : ops[i]? = some oi) (hsel : ∀ (j : Nat) (o : Oper) cs b, ops[j]? = some o → o.op ≠ .select cs b)
    (hQ : ∀ c a w, Q (.panic c) (a.put oi.dst v) w → Q (.panic c) a w) (hic : i ≠ c) :
    ∀ (fuel : Nat) (listed : Array Bool) (a : Act) (w : World),
      (∀ j oj, ops[j]? = some oj → j ≠ i → listed.getD j true = false → (∀ e ∈ oj.after, Region.binds md e = true → e.on ≠ i) → oi.apart ops oj = true) →
      i ∈ Region.ready md ops listed → Yields P ops oi v a → (listed.getD c true = false → S w) →
      wpAnyC P md ops Q S c fuel (listed.setIfInBounds i true) (a.put oi.dst v) w → wpAnyC P md ops Q S c (fuel + 1) listed a w := by
  intro fuel
  induction fuel with
  | zero =>
    intro listed a w _ hr hy hS H
    refine ⟨fun h => (by rw [h] at hr; cases hr), fun j hj => ?_⟩
    by_cases hji : j = i
    · subst hji; exact Yields.wpOp hi hy ⟨fun _ h => hS h, H⟩
    · have := ready_mono hj hji
      rw [H.1] at this
      cases this
  | succ fuel ih =>
    intro listed a w hfree hr hy hS H
    have hiu : listed.getD i true = false := (mem_ready.1 hr).1
    refine ⟨fun h => (by rw [h] at hr; cases hr), fun j hj => ?_⟩
    by_cases hji : j = i
    · subst hji; exact Yields.wpOp hi hy ⟨fun _ h => hS h, H⟩
    · have h1 := H.2 j (ready_mono hj hji)
      obtain ⟨hjun, oj, hoj, hall⟩ := mem_ready.1 hj
      have hnot : ∀ e ∈ oj.after, Region.binds md e = true → e.on ≠ i := fun e he hb heq => by
        have h1 := hall e he hb
        rw [heq, getD_false_of_true hiu] at h1
        cases h1
      have h2 := wpOp_putIf (S := fun _ => True) hoj (hfree j oj hoj hji hjun hnot) (fun cs b => hsel i oi cs b hi) (fun cs b => hsel j oj cs b hoj) hQ hy.yieldsIf h1
      have hfree' : ∀ k ok, ops[k]? = some ok → k ≠ i → (listed.setIfInBounds j true).getD k true = false →
          (∀ e ∈ ok.after, Region.binds md e = true → e.on ≠ i) → oi.apart ops ok = true := fun k ok hk hki hun hno => by
        refine hfree k ok hk hki ?_ hno
        by_cases hjk : j = k
        · subst hjk; exact hjun
        · rw [getD_set_ne true hjk] at hun; exact hun
      have hcu : listed.getD c true = false → (listed.setIfInBounds i true).getD c true = false := fun h => by rw [getD_set_ne true hic]; exact h
      refine wpOp_mono (fun a' w' h3 => ⟨fun hjc h => h3.2.1 hjc (hcu h), ih (listed.setIfInBounds j true) a' w' hfree' (ready_mono hr (Ne.symm hji)) ?_ (fun h => ?_) ?_⟩) h2
      · rcases h3.1 with ⟨q1, q2⟩ | q
        · exact .inl ⟨q1, fun w => q2 w trivial⟩
        · exact .inr q
      · by_cases hjc : j = c
        · subst hjc
          have : j < listed.size := by
            rcases Nat.lt_or_ge j listed.size with h' | h'
            · exact h'
            · simp [Array.getElem?_eq_none h'] at hjun
          simp [this] at h
        · rw [getD_set_ne true hjc] at h
          exact h3.2.1 hjc (hcu h)
      · rw [Array.setIfInBounds_comm _ _ hji]
        exact h3.2.2
theorem wpAnyC_takeY {i : Nat} {oi : Oper} {v : Value} {fuel : Nat} {listed : Array Bool} {a : Act} {w : World} (hi : ops[i]? = some oi)
    (hs : Region.noSelect ops = true) (hf : Region.free md ops listed i = true) (hr : (Region.ready md ops listed).contains i = true) (hic : i ≠ c)
    (hQ : ∀ c a w, Q (.panic c) (a.put oi.dst v) w → Q (.panic c) a w) (hS : S w) (hy : Yields P ops oi v a)
    (h : wpAnyC P md ops Q S c fuel (listed.setIfInBounds i true) (a.put oi.dst v) w) : wpAnyC P md ops Q S c (fuel + 1) listed a w :=
  wpAnyC_firstY hi (Region.noSelect_spec hs) hQ hic fuel listed a w (Region.free_spec hi hf) (by simpa using hr) hy (fun _ => hS) h
/-- One operation alone may come up. -/
theorem wpAnyC_one {k : Nat} {o : Oper} {fuel : Nat} {listed : Array Bool} {a : Act} {w : World} (hr : Region.ready md ops listed = [k]) (ho : ops[k]? = some o)
    (h : ∀ K : Act → World → Prop, (∀ a' w', (k ≠ c → S w') → wpAnyC P md ops Q S c fuel (listed.setIfInBounds k true) a' w' → K a' w') → if Region.wanted o (yielded ops a.tmps) = true then Oper.wp P o a w K Q else K (a.put o.dst undef) w) :
    wpAnyC P md ops Q S c (fuel + 1) listed a w := by
  refine ⟨fun h0 => (by rw [hr] at h0; cases h0), fun i hi => ?_⟩
  rw [hr] at hi
  have : i = k := by simpa using hi
  subst this
  unfold wpOp
  simp only [ho]
  have := h (fun a' w' => (i ≠ c → listed.getD c true = false → S w') ∧ wpAnyC P md ops Q S c fuel (listed.setIfInBounds i true) a' w') (fun a' w' h1 h2 => ⟨fun h3 _ => h1 h3, h2⟩)
  split
  · rename_i hw
    rw [if_pos hw] at this
    exact .inl this
  · rename_i hw
    rw [if_neg hw] at this
    exact this
end
end Go.Proofs.YtlaemmplemngmaaDoor.kit
/- General words, over any program: more steps of a region that draws its order, its act a variable. -/
namespace Go.Proofs.YtlaemmplemngmaaDoor.kit
open Go.ChangeShapes Go.WideShapes Go.ChangeAt Go.RowKit
section
variable {P : Program} {ops : Array Oper} {Q : Exit → Act → World → Prop} {S : World → Prop}
theorem run_nilc {oi : Oper} {a : Act} {x : Operand} {p : Addr} {v : World} (ho : oi.op = .nilCheck x) (hx : a.eval x = .pointer (some p)) : (execOp a.eval oi).run P v = .ok (.value (.pointer (some p))) v := by
  unfold execOp
  simp only [ho, hx, Sem.run_pure]
theorem run_buildv {oi : Oper} {a : Act} {x : Operand} {ty : TypeId} {s u : Value} {v : World} (ho : oi.op = .build ty #[(0, x)]) (hx : a.eval x = s) (hr : (Instr.build ty #[(0, s)]).run P v = .ok u v) : (execOp a.eval oi).run P v = .ok (.value u) v := by
  unfold execOp
  simp only [ho, List.map_toArray, List.map_cons, List.map_nil, hx, Sem.run_bind, Sem.run_pure, Result.andThen_ok, hr]
/-- An append that comes alone. -/
theorem step_app {i : Nat} {o : Oper} {d fuel : Nat} {L : Array Bool} {a : Act} {w w' : World} {s x : Operand} {t : TypeId} {v sv v' : Value} (hr : Region.ready .any ops L = [i]) (hi : ops[i]? = some o) (hg : o.guard = none) (hd : o.dst = some d) (ho : o.op = .call { callee := .builtin .append, args := #[s, x], argTypes := #[t, t] })
    (hs : a.eval s = v) (hx : a.eval x = sv) (hrun : ∀ ty, (Builtin.append_ #[t, t] ty #[v, sv]).run P w = .ok v' w') (hS : S w') (h : wpAnyH P .any ops Q S fuel (L.setIfInBounds i true) (a.put (some d) v') w') : wpAnyH P .any ops Q S (fuel + 1) L a w :=
  wpAnyH_step hr (by simp) fun j hj => by
    obtain rfl : j = i := by simpa using hj
    exact wpOp_of hi hg (wp_append_src s x t ho hs hx (hrun _) ⟨hS, hd ▸ h⟩)
/-! ### The same where loads go ahead of what writes their cells (KitP) -/
variable {c : Nat}
theorem begin_C {id : Nat} {a : Act} {w : World} (S : World → Prop) (c : Nat) (hm : P.follows .mixedOrders = true) (h : wpAnyC P .any ops Q S c ops.size (Array.replicate ops.size false) a w.drew) : (Code.region id ops true).wp P Q a w :=
  wp_region_any hm (wpAny_of_C _ _ _ _ h)
theorem abs_C {fuel : Nat} {L : Array Bool} (a : Act) {w : World} (h : ∀ b : Act, b = a → wpAnyC P .any ops Q S c fuel L b w) : wpAnyC P .any ops Q S c fuel L a w := h a rfl
theorem take_C {i : Nat} (p : List Nat) {oi : Oper} {u : Value} {d : Nat} {fuel : Nat} {L : Array Bool} {a : Act} {w : World} (hi : ops[i]? = some oi) (hs : Region.noSelect ops = true) (hf : Region.free .any ops L i = true) (hr : (Region.ready .any ops L).contains i = true) (hc : closedB .any ops L = true) (hp : pathB .any ops c i p = true) (hcs : c < L.size)
    (hg : oi.guard = none) (hd : oi.dst = some d) (hQ : ∀ c a w, Q (.panic c) (a.put oi.dst u) w → Q (.panic c) a w) (hS : S w) (hrun : ∀ v, S v → (execOp a.eval oi).run P v = .ok (.value u) v)
    (h : wpAnyC P .any ops Q S c fuel (L.setIfInBounds i true) (a.put (some d) u) w) : wpAnyC P .any ops Q S c (fuel + 1) L a w :=
  wpAnyC_take p hi hs hf hr hc hp hcs hQ hS (.inl ⟨by simp [Region.wanted, hg], hrun⟩) (hd ▸ h)
theorem take_Y {i : Nat} {oi : Oper} {u : Value} {d : Nat} {fuel : Nat} {L : Array Bool} {a : Act} {w : World} (hi : ops[i]? = some oi) (hs : Region.noSelect ops = true) (hf : Region.free .any ops L i = true) (hr : (Region.ready .any ops L).contains i = true) (hic : i ≠ c)
    (hg : oi.guard = none) (hd : oi.dst = some d) (hQ : ∀ c a w, Q (.panic c) (a.put oi.dst u) w → Q (.panic c) a w) (hS : S w) (hrun : ∀ v, (execOp a.eval oi).run P v = .ok (.value u) v)
    (h : wpAnyC P .any ops Q S c fuel (L.setIfInBounds i true) (a.put (some d) u) w) : wpAnyC P .any ops Q S c (fuel + 1) L a w :=
  wpAnyC_takeY hi hs hf hr hic hQ hS (.inl ⟨by simp [Region.wanted, hg], hrun⟩) (hd ▸ h)
theorem one_C {i : Nat} {o : Oper} {fuel : Nat} {L : Array Bool} {a : Act} {w : World} (hr : Region.ready .any ops L = [i]) (hi : ops[i]? = some o) (hg : o.guard = none) (h : ∀ K : Act → World → Prop, (∀ a' w', (i ≠ c → S w') → wpAnyC P .any ops Q S c fuel (L.setIfInBounds i true) a' w' → K a' w') → o.wp P a w K Q) : wpAnyC P .any ops Q S c (fuel + 1) L a w :=
  wpAnyC_one hr hi fun K hK => by
    rw [if_pos (by simp [Region.wanted, hg])]
    exact h K hK
theorem val_C {i : Nat} {o : Oper} {u : Value} {d fuel : Nat} {L : Array Bool} {a : Act} {w w' : World} (hr : Region.ready .any ops L = [i]) (hi : ops[i]? = some o) (hg : o.guard = none) (hd : o.dst = some d) (hS : i ≠ c → S w') (hrun : (execOp a.eval o).run P w = .ok (.value u) w')
    (h : wpAnyC P .any ops Q S c fuel (L.setIfInBounds i true) (a.put (some d) u) w') : wpAnyC P .any ops Q S c (fuel + 1) L a w :=
  one_C hr hi hg fun _ hK => wp_val hrun hd (hK _ _ hS h)
theorem app_C {i : Nat} {o : Oper} {d fuel : Nat} {L : Array Bool} {a : Act} {w w' : World} {s x : Operand} {t : TypeId} {v sv v' : Value} (hr : Region.ready .any ops L = [i]) (hi : ops[i]? = some o) (hg : o.guard = none) (hd : o.dst = some d) (ho : o.op = .call { callee := .builtin .append, args := #[s, x], argTypes := #[t, t] })
    (hs : a.eval s = v) (hx : a.eval x = sv) (hrun : (Builtin.append_ #[t, t] o.type #[v, sv]).run P w = .ok v' w') (hS : i ≠ c → S w') (h : wpAnyC P .any ops Q S c fuel (L.setIfInBounds i true) (a.put (some d) v') w') : wpAnyC P .any ops Q S c (fuel + 1) L a w :=
  one_C hr hi hg fun _ hK => wp_append_src s x t ho hs hx hrun (hK _ _ hS (hd ▸ h))
theorem store_C {i : Nat} {o : Oper} {x y : Operand} {ty : TypeId} {p u : Value} {fuel : Nat} {L : Array Bool} {a : Act} {w w' : World} (hr : Region.ready .any ops L = [i]) (hi : ops[i]? = some o) (hg : o.guard = none) (ho : o.op = .store ty x y) (hd : o.dst = none) (hx : a.eval x = p) (hy : a.eval y = u) (hS : i ≠ c → S w') (hrun : (Instr.storeAt ty p u).run P w = .ok () w')
    (h : wpAnyC P .any ops Q S c fuel (L.setIfInBounds i true) a w') : wpAnyC P .any ops Q S c (fuel + 1) L a w :=
  one_C hr hi hg fun _ hK => wp_store1 ho hd hx hy hrun (hK _ _ hS h)
theorem done_C {L : Array Bool} {a : Act} {w : World} (hr : Region.ready .any ops L = []) (h : Q .normal a w) : ∀ fuel, wpAnyC P .any ops Q S c fuel L a w
  | 0 => ⟨hr, h⟩
  | _ + 1 => ⟨fun _ => h, by rw [hr]; simp⟩
end
end Go.Proofs.YtlaemmplemngmaaDoor.kit
/- General words, over any program: parts of rows that are shifted, and what is written into them. -/
namespace Go.Proofs.YtlaemmplemngmaaDoor.kit
open Go.ChangeShapes Go.WideShapes Go.ChangeAt Go.RowKit
section
variable {P : Program} {w w' : World} {b0 size n : Nat} {v : Value} {xs : List Value}
/-- 'q[:k]'. -/
theorem qo_take {t e : TypeId} (ht : P.underlying t = some (.slice e)) (hi : (P.info? e).map (·.size) = some size) (q : Qo w b0 size v n xs) (k : Nat) (hk : k ≤ n) : ∃ v', (∀ W, (Instr.slice t v none (some (.int .i64 k)) none).run P W = .ok v' W) ∧ Qo w b0 size v' k (xs.take (k * size)) ∧ (∃ oa cap, v' = .slice oa k cap) ∧ (blkOf v' = blkOf v ∨ blkOf v' = none) := by
  obtain ⟨oa, cap, rfl, hc, hm, h3⟩ := q.val
  have hl := q.len
  cases hi' : P.info? e with
  | none => rw [hi'] at hi; cases hi
  | some i =>
    have hkn : k * size ≤ n * size := Nat.mul_le_mul_right _ hk
    refine ⟨.slice oa k cap, fun W => ?_, ⟨by rw [List.length_take, hl, Nat.min_eq_left hkn], oa, cap, rfl, by omega, hm, fun h0 => ?_⟩, ⟨oa, cap, rfl⟩, .inl (by cases cap <;> cases oa <;> rfl)⟩
    · have h1 : (k : Int) ≤ (cap : Int) := by omega
      cases oa with
      | none => simp [Instr.slice, run_underlying ht, Instr.sliceBounds, run_sliceBound, sizeOf, typeInfo, hi', h1]
      | some a =>
        obtain ⟨g, off, e, _⟩ | h0 : (∃ g off, some a = some (⟨g, off, none⟩ : Addr) ∧ True) ∨ cap = 0 := by
          rcases Nat.eq_zero_or_pos cap with h0 | h0
          · exact .inr h0
          · obtain ⟨g, off, e, _⟩ := h3 h0
            exact .inl ⟨g, off, e, trivial⟩
        · obtain rfl := Option.some.inj e
          simp [Instr.slice, run_underlying ht, Instr.sliceBounds, run_sliceBound, sizeOf, typeInfo, hi', h1, add_some]
        · subst h0
          obtain rfl : k = 0 := by omega
          simp [Instr.slice, run_underlying ht, Instr.sliceBounds, run_sliceBound, sizeOf, typeInfo, hi']
    · obtain ⟨g, off, e, h4, h5, h6, h7⟩ := h3 h0
      refine ⟨g, off, e, h4, h5, h6, fun j hj => ?_⟩
      rw [h7 j (by omega), List.getElem?_take, if_pos hj]
/-- 'q[k:]'. -/
theorem qo_drop {t e : TypeId} (ht : P.underlying t = some (.slice e)) (hi : (P.info? e).map (·.size) = some size) (q : Qo w b0 size v n xs) (k : Nat) (hk : k ≤ n) (hn : 0 < n) : ∃ v', (∀ W, (Instr.slice t v (some (.int .i64 k)) none none).run P W = .ok v' W) ∧ Qo w b0 size v' (n - k) (xs.drop (k * size)) ∧ (∃ oa cap, v' = .slice oa (n - k) cap) ∧ (blkOf v' = blkOf v ∨ blkOf v' = none) := by
  obtain ⟨oa, cap, rfl, hc, hm, h3⟩ := q.val
  obtain ⟨g, off, rfl, h4, h5, h6, h7⟩ := h3 (by omega)
  have hl := q.len
  cases hi' : P.info? e with
  | none => rw [hi'] at hi; cases hi
  | some i =>
    have hsz : i.size = size := by rw [hi'] at hi; exact Option.some.inj hi
    refine ⟨.slice (if cap = k then some ⟨g, off, none⟩ else some ⟨g, off + k * size, none⟩) (n - k) (cap - k), fun W => ?_, ⟨?_, _, cap - k, rfl, by omega, by omega, fun h0 => ?_⟩, ⟨_, _, rfl⟩, ?_⟩
    · have h1 : (k : Int) ≤ (n : Int) := by omega
      simp [Instr.slice, run_underlying ht, Instr.sliceBounds, run_sliceBound, sizeOf, typeInfo, hi', hsz, h1, add_some]
    · rw [List.length_drop, hl, Nat.sub_mul]
    · rw [if_neg (by omega)]
      have hcs : (cap - k) * size + k * size = cap * size := by rw [← Nat.add_mul]; congr 1; omega
      have hns : (n - k) * size + k * size = n * size := by rw [← Nat.add_mul]; congr 1; omega
      refine ⟨g, off + k * size, rfl, h4, h5, fun j hj => ?_, fun j hj => ?_⟩
      · rw [Nat.add_assoc]
        exact h6 _ (by omega)
      · rw [Nat.add_assoc, h7 _ (by omega), List.getElem?_drop]
    · rcases Nat.eq_zero_or_pos (cap - k) with h0 | h0
      · right; rw [h0]; exact blkOf_zero
      · left
        rw [if_neg (by omega), blkOf_pos h0, blkOf_pos (by omega)]
/-- One cell of it written. -/
theorem Qo.set_ (q : Qo w b0 size v n xs) {g off : Nat} {cap : Nat} (hv : v = .slice (some ⟨g, off, none⟩) n cap) (j : Nat) (hj : j < n * size) (u : Value) : Qo (w.setCell ⟨g, off + j, none⟩ u) b0 size v n (xs.set j u) := by
  have hn : 0 < n := Nat.pos_of_ne_zero fun e => by rw [e, Nat.zero_mul] at hj; omega
  obtain ⟨oa, cap', e, h1, h2, h3⟩ := q.val
  rw [hv] at e
  simp only [Value.slice.injEq, true_and] at e
  obtain ⟨rfl, rfl⟩ := e
  obtain ⟨g', off', e, h4, h5, h6, h7⟩ := h3 (by omega)
  simp only [Option.some.injEq, Addr.mk.injEq, and_true] at e
  obtain ⟨rfl, rfl⟩ := e
  have hnc : n * size ≤ cap * size := Nat.mul_le_mul_right _ h1
  have hc := h6 j (by omega)
  refine ⟨by rw [List.length_set, q.len], _, cap, hv, h1, h2, fun _ => ⟨g, off, rfl, h4, by simpa [World.setCell] using h5, fun i hi => ⟨?_, ?_⟩, fun i hi => ?_⟩⟩
  · by_cases e : i = j
    · subst e
      obtain ⟨u0, hu0⟩ := Option.isSome_iff_exists.1 hc.1
      rw [World.cell?_setCell_same _ _ _ hu0]
      rfl
    · rw [World.cell?_setCell_other w _ _ _ (by intro h; simp at h; first | done | omega)]
      exact (h6 i hi).1
  · rw [World.frozen?_setCell]
    exact (h6 i hi).2
  · by_cases e : i = j
    · subst e
      obtain ⟨u0, hu0⟩ := Option.isSome_iff_exists.1 hc.1
      rw [World.cell?_setCell_same _ _ _ hu0, List.getElem?_set_self (by rw [q.len]; exact hi)]
    · rw [World.cell?_setCell_other w _ _ _ (by intro h; simp at h; first | done | omega), h7 i hi, List.getElem?_set_ne (fun h => e h.symm)]
/-- An append at a plain region's list. -/
theorem wpList_append_q {ops : Array Oper} {rest : List Oper} {o : Oper} {a : Act} {Q : Exit → Act → World → Prop} (hgd : o.guard = none) (s x : Operand) (t : TypeId)
    (ho : o.op = .call { callee := .builtin .append, args := #[s, x], argTypes := #[t, t] }) {v sv v' : Value} (hs : a.eval s = v) (hx : a.eval x = sv)
    (hr : (Builtin.append_ #[t, t] o.type #[v, sv]).run P w = .ok v' w') (h : wpList P ops Q rest (a.put o.dst v') w') : wpList P ops Q (o :: rest) a w :=
  wpList_plain hgd fun _ hK => wp_append_src s x t ho hs hx hr (hK _ _ h)
theorem run_slice_hi {oi : Oper} {a : Act} {x h : Operand} {ty : TypeId} {s j u : Value} {v : World} (ho : oi.op = .slice ty x none (some h) none) (hx : a.eval x = s) (hh : a.eval h = j) (hu : P.underlying ty = some (.slice (P.elem ty))) (hr : (Instr.slice ty s none (some j) none).run P v = .ok u v) : (execOp a.eval oi).run P v = .ok (.value u) v := by
  unfold execOp
  simp only [ho, hx, hh, Option.map_some, Option.map_none, run_sliceAt_slice _ _ _ _ _ _ hu, Sem.run_bind, Sem.run_pure, Result.andThen_ok, hr]
theorem run_slice_lo {oi : Oper} {a : Act} {x l : Operand} {ty : TypeId} {s j u : Value} {v : World} (ho : oi.op = .slice ty x (some l) none none) (hx : a.eval x = s) (hl : a.eval l = j) (hu : P.underlying ty = some (.slice (P.elem ty))) (hr : (Instr.slice ty s (some j) none none).run P v = .ok u v) : (execOp a.eval oi).run P v = .ok (.value u) v := by
  unfold execOp
  simp only [ho, hx, hl, Option.map_some, Option.map_none, run_sliceAt_slice _ _ _ _ _ _ hu, Sem.run_bind, Sem.run_pure, Result.andThen_ok, hr]
theorem run_add {oi : Oper} {a : Act} {x y : Operand} {tx ty : TypeId} {s j u : Value} {v : World} (ho : oi.op = .binOp .add tx x y ty) (hx : a.eval x = s) (hy : a.eval y = j) (hr : (binOp .add tx s j).run P v = .ok u v) : (execOp a.eval oi).run P v = .ok (.value u) v := by
  unfold execOp
  simp [ho, hx, hy, eqGuard, hr]
theorem run_build0 {oi : Oper} {a : Act} {ty : TypeId} {s : Value} {v v' : World} (ho : oi.op = .buildSlice ty 0 #[]) (hr : (Instr.buildSlice ty 0 #[]).run P v = .ok s v') : (execOp a.eval oi).run P v = .ok (.value s) v' := by
  unfold execOp
  simp [ho, hr]
theorem run_assign {oi : Oper} {a : Act} {x : Operand} {u : Value} (ho : oi.op = .assign x) (hv : a.eval x = u) (v : World) : (execOp a.eval oi).run P v = .ok (.value u) v := by
  unfold execOp
  rw [ho]
  simp only [hv, Sem.run_bind, Sem.run_pure, Result.andThen_ok]
end
end Go.Proofs.YtlaemmplemngmaaDoor.kit
/- General words, over any program: a struct loaded in a region that only reads and makes memory. -/
namespace Go.Proofs.YtlaemmplemngmaaDoor.kit
/-- A struct loaded out of any place, in a region that only reads and makes memory, behind a guard that lets it. -/
theorem wpQuiet_load_at {P : Program} {ops : Array Oper} {C : World → Prop} {Q : Act → Prop} {a : Act} {o : Oper} {rest : List Oper} (hgd : Region.wanted o (yielded ops a.tmps) = true) (ty : TypeId) (x : Operand) (ho : o.op = .load ty x)
    (h off : Nat) (hx : a.eval x = .pointer (some ⟨h, off, none⟩)) (cs : Array Value) (d : TypeDesc) (hu : P.underlying ty = some d) (hd : (match d with | .struct _ | .array _ _ => true | _ => false) = true) (hi : (P.info? ty).map (·.size) = some cs.size)
    (hc : ∀ w, C w → Cel w h off cs) (k : wpQuiet P ops C Q rest (a.put o.dst (.agg cs))) : wpQuiet P ops C Q (o :: rest) a :=
  wpQuiet_step fun K hK => by
    rw [if_pos hgd]
    refine ⟨.agg cs, fun w hw => ?_, hK _ k⟩
    unfold Oper.quietAt execOp
    simp only [ho, hx, Instr.loadAt, Instr.sureAddr, Sem.run_bind, Sem.run_pure, Result.andThen_ok, run_loadVar_at ty d (hc w hw) hu hd hi]
    exact ⟨rfl, rfl⟩
end Go.Proofs.YtlaemmplemngmaaDoor.kit
/- Layer 6: chunks in memory, and which may be. -/
namespace Go.Proofs.YtlaemmplemngmaaDoor.ck
open Go.ChangeShapes Go.WideShapes Go.ChangeAt Go.RowKit kit oct par
set_option maxRecDepth 100000

theorem take_snoc {α : Type} {L : List α} {k : Nat} {x : α} (h : L[k]? = some x) : L.take (k + 1) = L.take k ++ [x] := by
  rw [List.take_add_one, h]; rfl
/-- A row that is read, wherever it lies. -/
structure Row (w : World) (B size : Nat) (v : Value) (n : Nat) (xs : List Value) : Prop where
  len : xs.length = n * size
  val : ∃ (oa : Option Addr) (a : Addr) (cap : Nat), v = .slice oa n cap ∧ n ≤ cap ∧ cap ≤ maxLen ∧ (0 < n → oa = some a ∧ a.block < B) ∧ ∀ i j, i < n → j < size → w.cell? ((a.add (i * size)).add j) = xs[i * size + j]?
theorem Row.below {w w' : World} {B size n : Nat} {v : Value} {xs : List Value} (h : Row w B size v n xs) (hb : Below B w w') : Row w' B size v n xs := by
  obtain ⟨oa, a, cap, h1, h2, h3, h4, h5⟩ := h.val
  refine ⟨h.len, oa, a, cap, h1, h2, h3, h4, fun i j hi hj => ?_⟩
  rw [← h5 i j hi hj]
  exact hb.cell (p := (a.add (i * size)).add j) (by rw [add_blk, add_blk]; exact (h4 (by omega)).2)
theorem Row.shape {w : World} {B size n : Nat} {v : Value} {xs : List Value} (h : Row w B size v n xs) : ∃ oa cap, v = .slice oa n cap ∧ n ≤ cap ∧ cap ≤ maxLen := by
  obtain ⟨oa, a, cap, h1, h2, h3, _⟩ := h.val
  exact ⟨oa, cap, h1, h2, h3⟩
/-- Gaps' cells. -/
def cellsG : List (Int × Int) → List Value
  | [] => []
  | g :: r => .int .i64 g.1 :: .int .i64 g.2 :: cellsG r
theorem cellsG_length (l : List (Int × Int)) : (cellsG l).length = l.length * 2 := by
  induction l with
  | nil => rfl
  | cons q r ih => simp [cellsG, ih]; omega
theorem cellsG_at {g : Int × Int} : ∀ {l : List (Int × Int)} {k : Nat}, l[k]? = some g → (cellsG l)[k * 2]? = some (.int .i64 g.1) ∧ (cellsG l)[k * 2 + 1]? = some (.int .i64 g.2)
  | [], _, h => by simp at h
  | q :: r, 0, h => by
    obtain rfl : q = g := by simpa using h
    exact ⟨rfl, rfl⟩
  | q :: r, k + 1, h => by
    have := cellsG_at (l := r) (k := k) (by simpa using h)
    rw [show (k + 1) * 2 = k * 2 + 1 + 1 by omega]
    exact this
theorem cellsP_get {p : Int × ByteArray} : ∀ {l : List (Int × ByteArray)} {k : Nat}, l[k]? = some p → (cellsP l)[k * 2]? = some (.int .i64 p.1) ∧ (cellsP l)[k * 2 + 1]? = some (.string p.2)
  | [], _, h => by simp at h
  | q :: r, 0, h => by
    obtain rfl : q = p := by simpa using h
    exact ⟨rfl, rfl⟩
  | q :: r, k + 1, h => by
    have := cellsP_get (l := r) (k := k) (by simpa using h)
    rw [show (k + 1) * 2 = k * 2 + 1 + 1 by omega]
    exact this
theorem add_z (a : Addr) (k : Nat) : (a.add k).add 0 = a.add k := by unfold Addr.add; split <;> simp_all
theorem add_o (a : Addr) (k : Nat) : (a.add k).add 1 = ⟨(a.add k).block, (a.add k).off + 1, none⟩ := by unfold Addr.add; split <;> simp_all
/-- A pair in a row. -/
theorem Row.two {w : World} {B n : Nat} {v : Value} {xs : List Value} (h : Row w B 2 v n xs) {i : Nat} (hi : i < n) {u0 u1 : Value} (h0 : xs[i * 2]? = some u0) (h1 : xs[i * 2 + 1]? = some u1) :
    ∃ a cap, v = .slice (some a) n cap ∧ a.block < B ∧ w.cell? (a.add (i * 2)) = some u0 ∧ w.cell? ⟨(a.add (i * 2)).block, (a.add (i * 2)).off + 1, none⟩ = some u1 := by
  obtain ⟨oa, a, cap, rfl, _, _, h4, h5⟩ := h.val
  obtain ⟨rfl, hb⟩ := h4 (by omega)
  refine ⟨a, cap, rfl, hb, ?_, ?_⟩
  · rw [← add_z, h5 i 0 hi (by decide), Nat.add_zero, h0]
  · rw [← add_o, h5 i 1 hi (by decide), h1]
theorem Row.one {w : World} {B n : Nat} {v : Value} {xs : List Value} (h : Row w B 1 v n xs) {i : Nat} (hi : i < n) {u0 : Value} (h0 : xs[i]? = some u0) :
    ∃ a cap, v = .slice (some a) n cap ∧ a.block < B ∧ w.cell? (a.add i) = some u0 := by
  obtain ⟨oa, a, cap, rfl, _, _, h4, h5⟩ := h.val
  obtain ⟨rfl, hb⟩ := h4 (by omega)
  refine ⟨a, cap, rfl, hb, ?_⟩
  have := h5 i 0 hi (by decide)
  rw [add_z, Nat.mul_one, Nat.add_zero, h0] at this
  exact this
/-- A chunk. -/
structure Ck where
  ty : Int
  fl : Int
  tsn : Int
  st : Int
  ss : Int
  pr : Int
  d : ByteArray
  tg : Int
  rw : Int
  ou : Int
  ii : Int
  P : List (Int × ByteArray)
  K : List (Int × ByteArray)
  G : List (Int × Int)
  D : List Int
def ckc (X : Ck) (vP vK vG vD : Value) : Array Value := #[.int .i64 X.ty, .int .i64 X.fl, .int .u32 X.tsn, .int .i64 X.st, .int .i64 X.ss, .int .u32 X.pr, .string X.d, .int .u32 X.tg, .int .u32 X.rw, .int .i64 X.ou, .int .i64 X.ii, vP, vK, vG, vD]
structure CkM (w : World) (B : Nat) (X : Ck) (vP vK vG vD : Value) : Prop where
  P : Row w B 2 vP X.P.length (cellsP X.P)
  K : Row w B 2 vK X.K.length (cellsP X.K)
  G : Row w B 2 vG X.G.length (cellsG X.G)
  D : Row w B 1 vD X.D.length (X.D.map (.int .u32))
theorem CkM.below {w w' : World} {B : Nat} {X : Ck} {vP vK vG vD : Value} (h : CkM w B X vP vK vG vD) (hb : Below B w w') : CkM w' B X vP vK vG vD := ⟨h.P.below hb, h.K.below hb, h.G.below hb, h.D.below hb⟩
/-- Numbers as they may be of their types, and rows that are not too great. -/
structure CkW (X : Ck) : Prop where
  fl : -9223372036854775808 ≤ X.fl ∧ X.fl ≤ 9223372036854775807
  tsn : 0 ≤ X.tsn ∧ X.tsn ≤ 4294967295
  pr : 0 ≤ X.pr ∧ X.pr ≤ 4294967295
  tg : 0 ≤ X.tg ∧ X.tg ≤ 4294967295
  rw : 0 ≤ X.rw ∧ X.rw ≤ 4294967295
  d : X.d.size ≤ 950
  P : X.P.length ≤ 18
  K : X.K.length ≤ 18
  G : X.G.length ≤ 18
  D : X.D.length ≤ 18
  g : ∀ x ∈ X.G, (-9223372036854775808 ≤ x.1 ∧ x.1 ≤ 9223372036854775807) ∧ (-9223372036854775808 ≤ x.2 ∧ x.2 ≤ 9223372036854775807)
  dd : ∀ x ∈ X.D, 0 ≤ x ∧ x ≤ 4294967295
/-! ### what the document says of types -/
def kindV (n : Int) : Int := if n = 0 then 0 else if n = 1 ∨ n = 2 then 1 else if n = 3 then 3 else if n = 4 ∨ n = 5 then 4 else if n = 6 ∨ n = 9 then 6 else if n = 7 then 7 else if n = 8 ∨ n = 11 ∨ n = 14 then 8 else if n = 10 then 10 else if n = 15 then 15 else if n = 193 ∨ n = 128 ∨ n = 130 then 16 else 20
def flagsV (n : Int) : Int := if n = 0 then 7 else if n = 6 ∨ n = 9 then 3 else if n = 14 then 1 else if kindV n = 20 then 255 else 0
end Go.Proofs.YtlaemmplemngmaaDoor.ck
/- A struct loaded from any address. -/
namespace Go.Proofs.YtlaemmplemngmaaDoor.kit
open Go.ChangeShapes Go.WideShapes Go.ChangeAt Go.RowKit
section
variable {P : Program}
theorem run_loadVar_from {w : World} (p : Addr) (ty : TypeId) {cs : Array Value} (d : TypeDesc) (C : ∀ (j : Nat) u, cs[j]? = some u → w.cell? (p.add j) = some u)
    (hu : P.underlying ty = some d) (hd : (match d with | .struct _ | .array _ _ => true | _ => false) = true) (hi : (P.info? ty).map (·.size) = some cs.size) :
    (loadVar ty p).run P w = .ok (.agg cs) w := by
  have hl : (loadCells p cs.toList.length).run P w = .ok cs.toList.toArray w :=
    run_loadCells_list (P := P) w p cs.toList (fun j v hv => C j v (by simpa using hv))
  cases hq : P.info? ty with
  | none => simp [hq] at hi
  | some i =>
    have hs : i.size = cs.size := by simpa [hq] using hi
    have hagg : (isAgg ty).run P w = .ok true w := by
      unfold isAgg
      rw [Sem.run_bind, run_underlying hu w]
      cases d <;> simp_all
    simp only [Array.length_toList, Array.toArray_toList] at hl
    simp [loadVar, Sem.run_bind, hagg, sizeOf, typeInfo, hq, hs, hl]
/-- A struct or array loaded from any address. -/
theorem wpList_load_from {ops : Array Oper} {rest : List Oper} {q : Oper} {a : Act} {w : World} {Q : Exit → Act → World → Prop} (hgd : q.guard = none) (ty : TypeId) (x : Operand) (ho : q.op = .load ty x)
    (p : Addr) (hx : a.eval x = .pointer (some p)) (cs : Array Value) (d : TypeDesc) (C : ∀ (j : Nat) u, cs[j]? = some u → w.cell? (p.add j) = some u)
    (hu : P.underlying ty = some d) (hd : (match d with | .struct _ | .array _ _ => true | _ => false) = true) (hi : (P.info? ty).map (·.size) = some cs.size)
    (k : wpList P ops Q rest (a.put q.dst (.agg cs)) w) : wpList P ops Q (q :: rest) a w :=
  wpList_plain hgd fun _ hK => by
    unfold Oper.wp execOp
    simp only [ho, hx, Instr.loadAt, Instr.sureAddr, Sem.run_bind, Sem.run_pure, Result.andThen_ok, run_loadVar_from p ty d C hu hd hi]
    exact hK _ _ k
end
end Go.Proofs.YtlaemmplemngmaaDoor.kit
/- Layer 6: is one of a row so? Numbers of 16 bits, parameters and causes that may be (gen-ckb.py wrote this). -/
namespace Go.Proofs.YtlaemmplemngmaaDoor.ck
open Go.ChangeShapes Go.WideShapes Go.ChangeAt Go.RowKit kit oct par
set_option maxRecDepth 100000

/-- The place of the first one that is so; -1: none is. -/
def idxA {α : Type} (p : α → Bool) : List α → Int
  | [] => -1
  | x :: r => if p x = true then 0 else if idxA p r < 0 then -1 else idxA p r + 1
theorem idxA_ge {α : Type} (p : α → Bool) : ∀ L, -1 ≤ idxA p L
  | [] => by simp [idxA]
  | x :: r => by
    have := idxA_ge p r
    unfold idxA
    split
    · omega
    · split <;> omega
theorem idxA_none {α : Type} {p : α → Bool} : ∀ {L : List α}, (∀ x ∈ L, p x = false) → idxA p L = -1
  | [], _ => rfl
  | x :: r, h => by
    unfold idxA
    rw [if_neg (by rw [h x (by simp)]; simp), idxA_none (fun y hy => h y (by simp [hy])), if_pos (by omega)]
theorem idxA_hit {α : Type} {p : α → Bool} : ∀ {L : List α} {i : Nat} {y : α}, L[i]? = some y → p y = true → (∀ (j : Nat) x, j < i → L[j]? = some x → p x = false) → idxA p L = (i : Int)
  | [], _, _, h, _, _ => by simp at h
  | z :: r, 0, y, h, hp, _ => by
    obtain rfl : z = y := by simpa using h
    unfold idxA
    rw [if_pos hp]
    rfl
  | z :: r, i + 1, y, h, hp, hno => by
    have ih := idxA_hit (L := r) (i := i) (by simpa using h) hp (fun j x hj hx => hno (j + 1) x (by omega) (by simpa using hx))
    unfold idxA
    rw [if_neg (by rw [hno 0 z (by omega) rfl]; simp), ih, if_neg (by omega)]
    omega
theorem idxA_never {α : Type} {p : α → Bool} {L : List α} (h : ∀ (j : Nat) x, j < L.length → L[j]? = some x → p x = false) : idxA p L = -1 := idxA_none fun x hx => by
  obtain ⟨j, hj⟩ := List.getElem?_of_mem hx
  exact h j x (List.getElem?_eq_some_iff.1 hj).1 hj
theorem idxA_any {α : Type} (p : α → Bool) (L : List α) : decide (0 ≤ idxA p L) = L.any p := by
  induction L with
  | nil => rfl
  | cons x r ih =>
    have hge := idxA_ge p r
    rw [List.any_cons, ← ih]
    show decide (0 ≤ (if p x = true then (0 : Int) else if idxA p r < 0 then -1 else idxA p r + 1)) = _
    by_cases h : p x = true
    · rw [if_pos h, h]; rfl
    · rw [if_neg h, Bool.eq_false_iff.2 h, Bool.false_or]
      by_cases h0 : idxA p r < 0
      · rw [if_pos h0, decide_eq_false (by decide), decide_eq_false (by omega)]
      · rw [if_neg h0, decide_eq_true (by omega), decide_eq_true (by omega)]
theorem szPa (p : Int × ByteArray) : (Tryd.prog.info? 55).map (·.size) = some (#[.int .i64 p.1, .string p.2] : Array Value).size := by show _ = some 2; kernel_rfl
theorem szCa (p : Int × ByteArray) : (Tryd.prog.info? 58).map (·.size) = some (#[.int .i64 p.1, .string p.2] : Array Value).size := by show _ = some 2; kernel_rfl
/-- Is it no number of 16 bits? -/
def no16 (x : Int) : Bool := decide (x < 0 ∨ 65535 < x)
theorem cl_16 (x : Int) (W : World) : Calls Tryd.prog 66 #[.int .i64 x] W fun e w' => e = .returned (.bool (no16 x)) ∧ Below W.heap.size W w' := by
  obtain ⟨rb, hrb⟩ : ∃ rb, no16 x = rb := ⟨_, rfl⟩
  rw [hrb]
  have HRB := Lib.hid hrb
  clear hrb
  go_enter Tryd.func66, Tryd.ntmps66
  by_cases h0 : x < 0
  · have HY := Lib.hid ((show no16 x = true from decide_eq_true (.inl h0)).symm.trans HRB.out)
    go_wp2_with fail
    go_ret
    exact ⟨ret_bool HY.out, Below.refl _ _⟩
  · by_cases h1 : 65535 < x
    · have HY := Lib.hid ((show no16 x = true from decide_eq_true (.inr h1)).symm.trans HRB.out)
      go_wp2_with fail
      go_ret
      exact ⟨ret_bool HY.out, Below.refl _ _⟩
    · have HY := Lib.hid ((show no16 x = false from decide_eq_false (by omega)).symm.trans HRB.out)
      go_wp2_with fail
      go_ret
      exact ⟨ret_bool HY.out, Below.refl _ _⟩
set_option maxHeartbeats 1000000 in
theorem ix_16 {w : World} {B : Nat} {v : Value} {L : List (Int)} (q : Row w B 1 v L.length (L.map (.int .i64))) (hB : B ≤ w.heap.size) (hn : L.length ≤ 20) : Calls Tryd.prog 76 #[v, .func (.func 66) #[] #[]] w fun e w' => e = .returned (.int .i64 (idxA no16 L)) ∧ Below w.heap.size w w' := by
  obtain ⟨B0, hB0⟩ : ∃ B0, w.heap.size = B0 := ⟨_, rfl⟩
  have HB0 := Lib.hid hB0
  have HQ := Lib.hid (show ∀ w', Below B0 w w' → Row w' B 1 v L.length (L.map (.int .i64)) from fun w' h => q.below (h.mono (by omega)))
  obtain ⟨ri, hri⟩ : ∃ ri, idxA no16 L = ri := ⟨_, rfl⟩
  rw [hri]
  have HRI := Lib.hid hri
  obtain ⟨oa, cap, hv, -, -⟩ := q.shape
  subst hv
  have bel0 : Below B0 w w := Below.refl _ _
  rw [hB0]
  clear hri q hB0
  go_enter Tryd.func76, Tryd.ntmps76
  go_wp2_with fail
  go_loopw [8] (fun s8 wr => ∃ i : Nat, s8 = .int .i64 (i : Nat) ∧ i ≤ L.length ∧ (∀ (j : Nat) x, j < i → L[j]? = some x → no16 x = false) ∧ Below B0 w wr) (fun s8 _ => L.length - (intOf s8).toNat)
  case atStart => exact ⟨0, rfl, Nat.zero_le _, fun j x hj => absurd hj (Nat.not_lt_zero j), bel0⟩
  case round =>
    rename World => wr
    clear bel0
    obtain ⟨i, rfl, hi, hno, bel⟩ := hrel
    by_cases hlt : i < L.length
    · have hii : (i : Int) < (L.length : Int) := by omega
      have hi0 : (0 : Int) ≤ (i : Int) := by omega
      obtain ⟨x, hx⟩ : ∃ x, L[i]? = some x := ⟨_, List.getElem?_eq_getElem hlt⟩
      have q := HQ.out _ bel
      obtain ⟨a, cap', hv, -, c0⟩ := q.one hlt (u0 := .int .i64 x) (by rw [List.getElem?_map, hx]; rfl)
      injection hv with hv1 hv2 hv3
      subst hv1
      subst hv3
      clear hv2
      have HX := Lib.hid (And.intro hx hno)
      have hcl := cl_16 x
      clear hx hno q
      go_wp2_with fail
      refine (hcl wr).mono ?_
      rintro e w3 ⟨he, hb3⟩
      have HBL := Lib.hid (bel.trans (hb3.mono (by rw [← HB0.out]; exact bel.size)))
      clear bel hb3 hcl c0
      rcases hp : no16 x with _ | _
      · have he2 : e = .returned (.bool false) := by rw [he]; exact congrArg (fun b => Ending.returned (.bool b)) hp
        clear he
        subst he2
        have HP := Lib.hid hp
        clear hp
        go_wp2_with fail
        go_roundw
        case rel => exact ⟨i + 1, by go_num, by omega, fun j y hj hy => by
          by_cases e : j = i
          · subst e
            have : y = x := by have := HX.out.1; rw [hy] at this; exact Option.some.inj this
            rw [this]; exact HP.out
          · exact HX.out.2 j y (by omega) hy, HBL.out⟩
        case measure => simp [intOf]; omega
      · have he2 : e = .returned (.bool true) := by rw [he]; exact congrArg (fun b => Ending.returned (.bool b)) hp
        clear he
        subst he2
        have HY := Lib.hid (idxA_hit (p := no16) HX.out.1 hp HX.out.2)
        clear hp
        go_wp2_with fail
        go_ret
        exact ⟨ret_int (HY.out.symm.trans HRI.out), HBL.out⟩
    · obtain rfl : i = L.length := by omega
      have HY := Lib.hid (idxA_never (p := no16) hno)
      have HBL := Lib.hid bel
      clear hno bel
      go_wp2_with fail
      go_ret
      exact ⟨ret_int (HY.out.symm.trans HRI.out), HBL.out⟩
theorem con_16 {w : World} {B : Nat} {v : Value} {L : List (Int)} (q : Row w B 1 v L.length (L.map (.int .i64))) (hB : B ≤ w.heap.size) (hn : L.length ≤ 20) : Calls Tryd.prog 65 #[v, .func (.func 66) #[] #[]] w fun e w' => e = .returned (.bool (L.any no16)) ∧ Below w.heap.size w w' := by
  have hi := ix_16 q hB hn
  rw [← idxA_any]
  obtain ⟨ri, hri⟩ : ∃ ri, idxA no16 L = ri := ⟨_, rfl⟩
  rw [hri] at hi ⊢
  obtain ⟨rb, hrb⟩ : ∃ rb, decide (0 ≤ ri) = rb := ⟨_, rfl⟩
  rw [hrb]
  have HRB := Lib.hid hrb
  clear hrb
  obtain ⟨oa, cap, hv, -, -⟩ := q.shape
  subst hv
  clear hri q hn
  go_enter Tryd.func65, Tryd.ntmps65
  go_wp2_with fail
  refine hi.mono ?_
  rintro e w1 ⟨rfl, hb1⟩
  clear hi
  by_cases h : 0 ≤ ri
  · have HY := Lib.hid ((decide_eq_true h).symm.trans HRB.out)
    go_wp2_with fail
    go_ret
    exact ⟨ret_bool HY.out, hb1⟩
  · have HY := Lib.hid ((decide_eq_false h).symm.trans HRB.out)
    go_wp2_with fail
    go_ret
    exact ⟨ret_bool (by first | exact HY.out | exact (decide_eq_false (by omega)).trans HY.out), hb1⟩
theorem within_any {w : World} {B : Nat} {v : Value} {L : List Int} (q : Row w B 1 v L.length (L.map (.int .i64))) (hB : B ≤ w.heap.size) (hn : L.length ≤ 20) : Calls Tryd.prog 41 #[v] w fun e w' => e = .returned (.bool (!(L.any no16))) ∧ Below w.heap.size w w' := by
  have hc := con_16 q hB hn
  obtain ⟨rb, hrb⟩ : ∃ rb, L.any no16 = rb := ⟨_, rfl⟩
  rw [hrb] at hc ⊢
  obtain ⟨oa, cap, hv, -, -⟩ := q.shape
  subst hv
  clear hrb q hn
  go_enter Tryd.func41, Tryd.ntmps41
  go_wp2_with fail
  refine hc.mono ?_
  rintro e w1 ⟨rfl, hb1⟩
  clear hc
  go_wp2_with fail
  go_ret
  exact ⟨rfl, hb1⟩
theorem cl_pm (x : Int × ByteArray) (W : World) : Calls Tryd.prog 68 #[.agg #[.int .i64 x.1, .string x.2]] W fun e w' => e = .returned (.bool (!mayP x.1 x.2)) ∧ Below W.heap.size W w' := by
  have X1 := Blk.new W 55 #[.int .i64 x.1, .string x.2]
  have bel := (Below.refl W.heap.size W).alloc (Nat.le_refl _) (.cells #[.int .i64 x.1, .string x.2] 55)
  have hm := fun W => may_any x.1 x.2 W
  obtain ⟨rb, hrb⟩ : ∃ rb, mayP x.1 x.2 = rb := ⟨_, rfl⟩
  rw [hrb] at hm ⊢
  clear hrb
  go_enter Tryd.func68, Tryd.ntmps68
  go_upto_region 1 with fail
  obtain ⟨w1, hw1⟩ : ∃ w1, W.alloc (.cells #[.int .i64 x.1, .string x.2] 55) = w1 := ⟨_, rfl⟩
  rw [hw1] at X1 bel
  try rw [hw1]
  clear hw1
  have C1 := Cel.of_blk X1
  have sz := szPa x
  go_wp2_with (refine wpList_load_at rfl 55 _ rfl W.heap.size 0 rfl #[.int .i64 x.1, .string x.2] _ C1 Tryd.underlying55 rfl sz ?_)
  refine (hm w1).mono ?_
  rintro e w2 ⟨rfl, hb⟩
  have bel2 := bel.trans (hb.mono bel.size)
  clear C1 X1 hm
  go_wp2_with fail
  go_ret
  exact ⟨rfl, bel2⟩
set_option maxHeartbeats 1000000 in
theorem ix_pm {w : World} {B : Nat} {v : Value} {L : List (Int × ByteArray)} (q : Row w B 2 v L.length (cellsP L)) (hB : B ≤ w.heap.size) (hn : L.length ≤ 20) : Calls Tryd.prog 77 #[v, .func (.func 68) #[] #[]] w fun e w' => e = .returned (.int .i64 (idxA (fun p : Int × ByteArray => !mayP p.1 p.2) L)) ∧ Below w.heap.size w w' := by
  obtain ⟨B0, hB0⟩ : ∃ B0, w.heap.size = B0 := ⟨_, rfl⟩
  have HB0 := Lib.hid hB0
  have HQ := Lib.hid (show ∀ w', Below B0 w w' → Row w' B 2 v L.length (cellsP L) from fun w' h => q.below (h.mono (by omega)))
  obtain ⟨ri, hri⟩ : ∃ ri, idxA (fun p : Int × ByteArray => !mayP p.1 p.2) L = ri := ⟨_, rfl⟩
  rw [hri]
  have HRI := Lib.hid hri
  obtain ⟨oa, cap, hv, -, -⟩ := q.shape
  subst hv
  have bel0 : Below B0 w w := Below.refl _ _
  rw [hB0]
  clear hri q hB0
  go_enter Tryd.func77, Tryd.ntmps77
  go_wp2_with fail
  go_loopw [8] (fun s8 wr => ∃ i : Nat, s8 = .int .i64 (i : Nat) ∧ i ≤ L.length ∧ (∀ (j : Nat) x, j < i → L[j]? = some x → (fun p : Int × ByteArray => !mayP p.1 p.2) x = false) ∧ Below B0 w wr) (fun s8 _ => L.length - (intOf s8).toNat)
  case atStart => exact ⟨0, rfl, Nat.zero_le _, fun j x hj => absurd hj (Nat.not_lt_zero j), bel0⟩
  case round =>
    rename World => wr
    clear bel0
    obtain ⟨i, rfl, hi, hno, bel⟩ := hrel
    by_cases hlt : i < L.length
    · have hii : (i : Int) < (L.length : Int) := by omega
      have hi0 : (0 : Int) ≤ (i : Int) := by omega
      obtain ⟨x, hx⟩ : ∃ x, L[i]? = some x := ⟨_, List.getElem?_eq_getElem hlt⟩
      have q := HQ.out _ bel
      obtain ⟨a, cap', hv, -, c0, c1⟩ := q.two hlt (cellsP_get hx).1 (cellsP_get hx).2
      injection hv with hv1 hv2 hv3
      subst hv1
      subst hv3
      clear hv2
      have hpc : ∀ (j : Nat) u, (#[.int .i64 x.1, .string x.2] : Array Value)[j]? = some u → wr.cell? ((a.add (i * 2)).add j) = some u := fun j u hu => by
        rcases j with _ | _ | j
        · rw [add_z]; simp at hu; rw [← hu]; exact c0
        · rw [add_o]; simp at hu; rw [← hu]; exact c1
        · simp at hu
      have sz := szPa x
      have HX := Lib.hid (And.intro hx hno)
      have hcl := cl_pm x
      clear hx hno q
      go_wp2_with (refine wpList_load_from rfl 55 _ rfl (a.add (i * 2)) rfl #[.int .i64 x.1, .string x.2] _ hpc Tryd.underlying55 rfl sz ?_)
      refine (hcl wr).mono ?_
      rintro e w3 ⟨he, hb3⟩
      have HBL := Lib.hid (bel.trans (hb3.mono (by rw [← HB0.out]; exact bel.size)))
      clear bel hb3 hcl hpc sz c0 c1
      rcases hp : (fun p : Int × ByteArray => !mayP p.1 p.2) x with _ | _
      · have he2 : e = .returned (.bool false) := by rw [he]; exact congrArg (fun b => Ending.returned (.bool b)) hp
        clear he
        subst he2
        have HP := Lib.hid hp
        clear hp
        go_wp2_with fail
        go_roundw
        case rel => exact ⟨i + 1, by go_num, by omega, fun j y hj hy => by
          by_cases e : j = i
          · subst e
            have : y = x := by have := HX.out.1; rw [hy] at this; exact Option.some.inj this
            rw [this]; exact HP.out
          · exact HX.out.2 j y (by omega) hy, HBL.out⟩
        case measure => simp [intOf]; omega
      · have he2 : e = .returned (.bool true) := by rw [he]; exact congrArg (fun b => Ending.returned (.bool b)) hp
        clear he
        subst he2
        have HY := Lib.hid (idxA_hit (p := (fun p : Int × ByteArray => !mayP p.1 p.2)) HX.out.1 hp HX.out.2)
        clear hp
        go_wp2_with fail
        go_ret
        exact ⟨ret_int (HY.out.symm.trans HRI.out), HBL.out⟩
    · obtain rfl : i = L.length := by omega
      have HY := Lib.hid (idxA_never (p := (fun p : Int × ByteArray => !mayP p.1 p.2)) hno)
      have HBL := Lib.hid bel
      clear hno bel
      go_wp2_with fail
      go_ret
      exact ⟨ret_int (HY.out.symm.trans HRI.out), HBL.out⟩
theorem con_pm {w : World} {B : Nat} {v : Value} {L : List (Int × ByteArray)} (q : Row w B 2 v L.length (cellsP L)) (hB : B ≤ w.heap.size) (hn : L.length ≤ 20) : Calls Tryd.prog 67 #[v, .func (.func 68) #[] #[]] w fun e w' => e = .returned (.bool (L.any (fun p : Int × ByteArray => !mayP p.1 p.2))) ∧ Below w.heap.size w w' := by
  have hi := ix_pm q hB hn
  rw [← idxA_any]
  obtain ⟨ri, hri⟩ : ∃ ri, idxA (fun p : Int × ByteArray => !mayP p.1 p.2) L = ri := ⟨_, rfl⟩
  rw [hri] at hi ⊢
  obtain ⟨rb, hrb⟩ : ∃ rb, decide (0 ≤ ri) = rb := ⟨_, rfl⟩
  rw [hrb]
  have HRB := Lib.hid hrb
  clear hrb
  obtain ⟨oa, cap, hv, -, -⟩ := q.shape
  subst hv
  clear hri q hn
  go_enter Tryd.func67, Tryd.ntmps67
  go_wp2_with fail
  refine hi.mono ?_
  rintro e w1 ⟨rfl, hb1⟩
  clear hi
  by_cases h : 0 ≤ ri
  · have HY := Lib.hid ((decide_eq_true h).symm.trans HRB.out)
    go_wp2_with fail
    go_ret
    exact ⟨ret_bool HY.out, hb1⟩
  · have HY := Lib.hid ((decide_eq_false h).symm.trans HRB.out)
    go_wp2_with fail
    go_ret
    exact ⟨ret_bool (by first | exact HY.out | exact (decide_eq_false (by omega)).trans HY.out), hb1⟩
theorem paramsMay_any {w : World} {B : Nat} {v : Value} {L : List (Int × ByteArray)} (q : Row w B 2 v L.length (cellsP L)) (hB : B ≤ w.heap.size) (hn : L.length ≤ 20) : Calls Tryd.prog 42 #[v] w fun e w' => e = .returned (.bool (decide (L.length ≤ 16) && L.all fun p => mayP p.1 p.2)) ∧ Below w.heap.size w w' := by
  have hc := con_pm q hB hn
  rw [show (L.all fun p => mayP p.1 p.2) = !(L.any (fun p : Int × ByteArray => !mayP p.1 p.2)) by rw [List.not_any_eq_all_not]; simp]
  obtain ⟨rb, hrb⟩ : ∃ rb, L.any (fun p : Int × ByteArray => !mayP p.1 p.2) = rb := ⟨_, rfl⟩
  rw [hrb] at hc ⊢
  obtain ⟨oa, cap, hv, -, -⟩ := q.shape
  subst hv
  obtain ⟨m, hm⟩ : ∃ m, L.length = m := ⟨_, rfl⟩
  rw [hm] at hc ⊢
  clear hrb q hn hm
  go_enter Tryd.func42, Tryd.ntmps42
  by_cases h : m ≤ 16
  · have h' : (m : Int) ≤ 16 := by omega
    rw [decide_eq_true h]
    go_wp2_with fail
    refine hc.mono ?_
    rintro e w1 ⟨rfl, hb1⟩
    clear hc
    go_wp2_with fail
    go_ret
    exact ⟨by simp, hb1⟩
  · have h' : ¬ (m : Int) ≤ 16 := by omega
    rw [decide_eq_false h]
    clear hc
    go_wp2_with fail
    go_ret
    exact ⟨by simp, Below.refl _ _⟩
theorem cmay_any (t : Int) (s : ByteArray) (w : World) : Calls Tryd.prog 72 #[.agg #[.int .i64 t, .string s]] w fun e w' => e = .returned (.bool (mayP t s)) ∧ Below w.heap.size w w' := by
  have X1 := Blk.new w 58 #[.int .i64 t, .string s]
  have bel := (Below.refl w.heap.size w).alloc (Nat.le_refl _) (.cells #[.int .i64 t, .string s] 58)
  have hm := may_any t s
  have ha := asParam_any t s
  obtain ⟨rb, hrb⟩ : ∃ rb, mayP t s = rb := ⟨_, rfl⟩
  rw [hrb] at hm ⊢
  clear hrb
  go_enter Tryd.func72, Tryd.ntmps72
  go_upto_region 1 with fail
  obtain ⟨w1, hw1⟩ : ∃ w1, w.alloc (.cells #[.int .i64 t, .string s] 58) = w1 := ⟨_, rfl⟩
  rw [hw1] at X1 bel
  try rw [hw1]
  clear hw1
  have C1 := Cel.of_blk X1
  have sz := szCa (t, s)
  dsimp only at sz
  go_wp2_with (refine wpList_load_at rfl 58 _ rfl w.heap.size 0 rfl #[.int .i64 t, .string s] _ C1 Tryd.underlying58 rfl sz ?_)
  refine (ha w1).mono ?_
  rintro e w2 ⟨rfl, hb⟩
  have bel2 := bel.trans (hb.mono bel.size)
  clear C1 X1 ha bel hb
  go_wp2_with fail
  refine (hm w2).mono ?_
  rintro e w3 ⟨rfl, hb⟩
  have bel3 := bel2.trans (hb.mono bel2.size)
  clear hm
  go_wp2_with fail
  go_ret
  exact ⟨rfl, bel3⟩
theorem cl_cm (x : Int × ByteArray) (W : World) : Calls Tryd.prog 71 #[.agg #[.int .i64 x.1, .string x.2]] W fun e w' => e = .returned (.bool (!mayP x.1 x.2)) ∧ Below W.heap.size W w' := by
  have X1 := Blk.new W 58 #[.int .i64 x.1, .string x.2]
  have bel := (Below.refl W.heap.size W).alloc (Nat.le_refl _) (.cells #[.int .i64 x.1, .string x.2] 58)
  have hm := fun W => cmay_any x.1 x.2 W
  obtain ⟨rb, hrb⟩ : ∃ rb, mayP x.1 x.2 = rb := ⟨_, rfl⟩
  rw [hrb] at hm ⊢
  clear hrb
  go_enter Tryd.func71, Tryd.ntmps71
  go_upto_region 1 with fail
  obtain ⟨w1, hw1⟩ : ∃ w1, W.alloc (.cells #[.int .i64 x.1, .string x.2] 58) = w1 := ⟨_, rfl⟩
  rw [hw1] at X1 bel
  try rw [hw1]
  clear hw1
  have C1 := Cel.of_blk X1
  have sz := szCa x
  go_wp2_with (refine wpList_load_at rfl 58 _ rfl W.heap.size 0 rfl #[.int .i64 x.1, .string x.2] _ C1 Tryd.underlying58 rfl sz ?_)
  refine (hm w1).mono ?_
  rintro e w2 ⟨rfl, hb⟩
  have bel2 := bel.trans (hb.mono bel.size)
  clear C1 X1 hm
  go_wp2_with fail
  go_ret
  exact ⟨rfl, bel2⟩
set_option maxHeartbeats 1000000 in
theorem ix_cm {w : World} {B : Nat} {v : Value} {L : List (Int × ByteArray)} (q : Row w B 2 v L.length (cellsP L)) (hB : B ≤ w.heap.size) (hn : L.length ≤ 20) : Calls Tryd.prog 78 #[v, .func (.func 71) #[] #[]] w fun e w' => e = .returned (.int .i64 (idxA (fun p : Int × ByteArray => !mayP p.1 p.2) L)) ∧ Below w.heap.size w w' := by
  obtain ⟨B0, hB0⟩ : ∃ B0, w.heap.size = B0 := ⟨_, rfl⟩
  have HB0 := Lib.hid hB0
  have HQ := Lib.hid (show ∀ w', Below B0 w w' → Row w' B 2 v L.length (cellsP L) from fun w' h => q.below (h.mono (by omega)))
  obtain ⟨ri, hri⟩ : ∃ ri, idxA (fun p : Int × ByteArray => !mayP p.1 p.2) L = ri := ⟨_, rfl⟩
  rw [hri]
  have HRI := Lib.hid hri
  obtain ⟨oa, cap, hv, -, -⟩ := q.shape
  subst hv
  have bel0 : Below B0 w w := Below.refl _ _
  rw [hB0]
  clear hri q hB0
  go_enter Tryd.func78, Tryd.ntmps78
  go_wp2_with fail
  go_loopw [8] (fun s8 wr => ∃ i : Nat, s8 = .int .i64 (i : Nat) ∧ i ≤ L.length ∧ (∀ (j : Nat) x, j < i → L[j]? = some x → (fun p : Int × ByteArray => !mayP p.1 p.2) x = false) ∧ Below B0 w wr) (fun s8 _ => L.length - (intOf s8).toNat)
  case atStart => exact ⟨0, rfl, Nat.zero_le _, fun j x hj => absurd hj (Nat.not_lt_zero j), bel0⟩
  case round =>
    rename World => wr
    clear bel0
    obtain ⟨i, rfl, hi, hno, bel⟩ := hrel
    by_cases hlt : i < L.length
    · have hii : (i : Int) < (L.length : Int) := by omega
      have hi0 : (0 : Int) ≤ (i : Int) := by omega
      obtain ⟨x, hx⟩ : ∃ x, L[i]? = some x := ⟨_, List.getElem?_eq_getElem hlt⟩
      have q := HQ.out _ bel
      obtain ⟨a, cap', hv, -, c0, c1⟩ := q.two hlt (cellsP_get hx).1 (cellsP_get hx).2
      injection hv with hv1 hv2 hv3
      subst hv1
      subst hv3
      clear hv2
      have hpc : ∀ (j : Nat) u, (#[.int .i64 x.1, .string x.2] : Array Value)[j]? = some u → wr.cell? ((a.add (i * 2)).add j) = some u := fun j u hu => by
        rcases j with _ | _ | j
        · rw [add_z]; simp at hu; rw [← hu]; exact c0
        · rw [add_o]; simp at hu; rw [← hu]; exact c1
        · simp at hu
      have sz := szCa x
      have HX := Lib.hid (And.intro hx hno)
      have hcl := cl_cm x
      clear hx hno q
      go_wp2_with (refine wpList_load_from rfl 58 _ rfl (a.add (i * 2)) rfl #[.int .i64 x.1, .string x.2] _ hpc Tryd.underlying58 rfl sz ?_)
      refine (hcl wr).mono ?_
      rintro e w3 ⟨he, hb3⟩
      have HBL := Lib.hid (bel.trans (hb3.mono (by rw [← HB0.out]; exact bel.size)))
      clear bel hb3 hcl hpc sz c0 c1
      rcases hp : (fun p : Int × ByteArray => !mayP p.1 p.2) x with _ | _
      · have he2 : e = .returned (.bool false) := by rw [he]; exact congrArg (fun b => Ending.returned (.bool b)) hp
        clear he
        subst he2
        have HP := Lib.hid hp
        clear hp
        go_wp2_with fail
        go_roundw
        case rel => exact ⟨i + 1, by go_num, by omega, fun j y hj hy => by
          by_cases e : j = i
          · subst e
            have : y = x := by have := HX.out.1; rw [hy] at this; exact Option.some.inj this
            rw [this]; exact HP.out
          · exact HX.out.2 j y (by omega) hy, HBL.out⟩
        case measure => simp [intOf]; omega
      · have he2 : e = .returned (.bool true) := by rw [he]; exact congrArg (fun b => Ending.returned (.bool b)) hp
        clear he
        subst he2
        have HY := Lib.hid (idxA_hit (p := (fun p : Int × ByteArray => !mayP p.1 p.2)) HX.out.1 hp HX.out.2)
        clear hp
        go_wp2_with fail
        go_ret
        exact ⟨ret_int (HY.out.symm.trans HRI.out), HBL.out⟩
    · obtain rfl : i = L.length := by omega
      have HY := Lib.hid (idxA_never (p := (fun p : Int × ByteArray => !mayP p.1 p.2)) hno)
      have HBL := Lib.hid bel
      clear hno bel
      go_wp2_with fail
      go_ret
      exact ⟨ret_int (HY.out.symm.trans HRI.out), HBL.out⟩
theorem con_cm {w : World} {B : Nat} {v : Value} {L : List (Int × ByteArray)} (q : Row w B 2 v L.length (cellsP L)) (hB : B ≤ w.heap.size) (hn : L.length ≤ 20) : Calls Tryd.prog 70 #[v, .func (.func 71) #[] #[]] w fun e w' => e = .returned (.bool (L.any (fun p : Int × ByteArray => !mayP p.1 p.2))) ∧ Below w.heap.size w w' := by
  have hi := ix_cm q hB hn
  rw [← idxA_any]
  obtain ⟨ri, hri⟩ : ∃ ri, idxA (fun p : Int × ByteArray => !mayP p.1 p.2) L = ri := ⟨_, rfl⟩
  rw [hri] at hi ⊢
  obtain ⟨rb, hrb⟩ : ∃ rb, decide (0 ≤ ri) = rb := ⟨_, rfl⟩
  rw [hrb]
  have HRB := Lib.hid hrb
  clear hrb
  obtain ⟨oa, cap, hv, -, -⟩ := q.shape
  subst hv
  clear hri q hn
  go_enter Tryd.func70, Tryd.ntmps70
  go_wp2_with fail
  refine hi.mono ?_
  rintro e w1 ⟨rfl, hb1⟩
  clear hi
  by_cases h : 0 ≤ ri
  · have HY := Lib.hid ((decide_eq_true h).symm.trans HRB.out)
    go_wp2_with fail
    go_ret
    exact ⟨ret_bool HY.out, hb1⟩
  · have HY := Lib.hid ((decide_eq_false h).symm.trans HRB.out)
    go_wp2_with fail
    go_ret
    exact ⟨ret_bool (by first | exact HY.out | exact (decide_eq_false (by omega)).trans HY.out), hb1⟩
theorem causesMay_any {w : World} {B : Nat} {v : Value} {L : List (Int × ByteArray)} (q : Row w B 2 v L.length (cellsP L)) (hB : B ≤ w.heap.size) (hn : L.length ≤ 20) : Calls Tryd.prog 43 #[v] w fun e w' => e = .returned (.bool (decide (L.length ≤ 16) && L.all fun p => mayP p.1 p.2)) ∧ Below w.heap.size w w' := by
  have hc := con_cm q hB hn
  rw [show (L.all fun p => mayP p.1 p.2) = !(L.any (fun p : Int × ByteArray => !mayP p.1 p.2)) by rw [List.not_any_eq_all_not]; simp]
  obtain ⟨rb, hrb⟩ : ∃ rb, L.any (fun p : Int × ByteArray => !mayP p.1 p.2) = rb := ⟨_, rfl⟩
  rw [hrb] at hc ⊢
  obtain ⟨oa, cap, hv, -, -⟩ := q.shape
  subst hv
  obtain ⟨m, hm⟩ : ∃ m, L.length = m := ⟨_, rfl⟩
  rw [hm] at hc ⊢
  clear hrb q hn hm
  go_enter Tryd.func43, Tryd.ntmps43
  by_cases h : m ≤ 16
  · have h' : (m : Int) ≤ 16 := by omega
    rw [decide_eq_true h]
    go_wp2_with fail
    refine hc.mono ?_
    rintro e w1 ⟨rfl, hb1⟩
    clear hc
    go_wp2_with fail
    go_ret
    exact ⟨by simp, hb1⟩
  · have h' : ¬ (m : Int) ≤ 16 := by omega
    rw [decide_eq_false h]
    clear hc
    go_wp2_with fail
    go_ret
    exact ⟨by simp, Below.refl _ _⟩
end Go.Proofs.YtlaemmplemngmaaDoor.ck
/- Layer 6: flags, gaps, words, as they may be. -/
namespace Go.Proofs.YtlaemmplemngmaaDoor.ck
open Go.Sort (grow)
open Go.ChangeShapes Go.WideShapes Go.ChangeAt Go.RowKit kit oct par
set_option maxRecDepth 100000

theorem bv_sub (X M : BitVec 64) : X &&& ~~~M = 0#64 ↔ X &&& M = X := by
  constructor
  · intro h
    apply BitVec.eq_of_getLsbD_eq
    intro i hi
    have := congrArg (fun b : BitVec 64 => b.getLsbD i) h
    simp only [BitVec.getLsbD_and, BitVec.getLsbD_not, hi, decide_true, Bool.true_and, BitVec.getLsbD_zero] at this ⊢
    cases hX : X.getLsbD i <;> cases hM : M.getLsbD i <;> simp_all
  · intro h
    apply BitVec.eq_of_getLsbD_eq
    intro i hi
    have := congrArg (fun b : BitVec 64 => b.getLsbD i) h
    simp only [BitVec.getLsbD_and, BitVec.getLsbD_not, hi, decide_true, Bool.true_and, BitVec.getLsbD_zero] at this ⊢
    cases hX : X.getLsbD i <;> cases hM : M.getLsbD i <;> simp_all
theorem andNot_i64 (x : Int) (k : Nat) (hk : k ≤ 8) (h1 : -9223372036854775808 ≤ x) (h2 : x ≤ 9223372036854775807) : bits .andNot .i64 x ((2 ^ k - 1 : Nat) : Int) = 0 ↔ 0 ≤ x ∧ x ≤ ((2 ^ k - 1 : Nat) : Int) := by
  have hp : 2 ^ k ≤ 256 := by
    have := Nat.pow_le_pow_right (show 0 < 2 by decide) hk
    have e8 : (2 : Nat) ^ 8 = 256 := rfl
    omega
  have hp0 : 0 < 2 ^ k := Nat.two_pow_pos k
  have e : bits .andNot .i64 x ((2 ^ k - 1 : Nat) : Int) = IntKind.i64.wrap ((BitVec.ofInt 64 x &&& ~~~ BitVec.ofInt 64 ((2 ^ k - 1 : Nat) : Int)).toNat : Int) := rfl
  rw [e]
  generalize hX : BitVec.ofInt 64 x = X
  have hXn : (X.toNat : Int) = x % 18446744073709551616 := by
    rw [← hX, BitVec.toNat_ofInt]
    have : 0 ≤ x % ((2 ^ 64 : Nat) : Int) := Int.emod_nonneg _ (by decide)
    omega
  have hM : (BitVec.ofInt 64 ((2 ^ k - 1 : Nat) : Int)).toNat = 2 ^ k - 1 := ofInt_i64 _ (by omega)
  generalize BitVec.ofInt 64 ((2 ^ k - 1 : Nat) : Int) = M at hM
  have hw : ∀ n : Nat, n < 18446744073709551616 → (IntKind.i64.wrap (n : Int) = 0 ↔ n = 0) := fun n hn => by
    rw [IntKind.wrap_i64]
    omega
  rw [hw _ (X &&& ~~~M).isLt]
  have h3 : (X &&& ~~~M).toNat = 0 ↔ X &&& ~~~M = 0#64 := ⟨fun h => BitVec.eq_of_toNat_eq h, fun h => by rw [h]; rfl⟩
  rw [h3, bv_sub]
  have h4 : X &&& M = X ↔ X.toNat % 2 ^ k = X.toNat := by
    rw [← Nat.and_two_pow_sub_one_eq_mod, ← hM, ← BitVec.toNat_and]
    exact ⟨fun h => by rw [h], fun h => BitVec.eq_of_toNat_eq h⟩
  rw [h4]
  have h5 : X.toNat % 2 ^ k = X.toNat ↔ X.toNat < 2 ^ k := ⟨fun h => by rw [← h]; exact Nat.mod_lt _ hp0, fun h => Nat.mod_eq_of_lt h⟩
  rw [h5]
  omega
/-- Flags that those of a type may have. -/
def flMay (t f : Int) : Bool := decide (0 ≤ f ∧ f ≤ flagsV t)
theorem begins_any (n : Int) (w : World) : Calls Tryd.prog 45 #[.int .i64 n] w fun e w' => e = .returned (.bool (decide (kindV n = 1))) ∧ Below w.heap.size w w' := by
  obtain ⟨rb, hrb⟩ : ∃ rb, decide (kindV n = 1) = rb := ⟨_, rfl⟩
  rw [hrb]
  have HRB := Lib.hid hrb
  clear hrb
  go_enter Tryd.func45, Tryd.ntmps45
  by_cases h1 : n = 1
  · subst h1
    have HY := Lib.hid ((show decide (kindV 1 = 1) = true by decide).symm.trans HRB.out)
    go_wp2_with fail
    go_ret
    exact ⟨ret_bool HY.out, Below.refl _ _⟩
  · by_cases h2 : n = 2
    · subst h2
      have HY := Lib.hid ((show decide (kindV 2 = 1) = true by decide).symm.trans HRB.out)
      go_wp2_with fail
      go_ret
      exact ⟨ret_bool HY.out, Below.refl _ _⟩
    · have HY := Lib.hid ((show decide (kindV n = 1) = false from decide_eq_false (by unfold kindV; (repeat' split) <;> omega)).symm.trans HRB.out)
      have f1 : (n == 1) = false := beq_eq_false_iff_ne.2 h1
      have f2 : (n == 2) = false := beq_eq_false_iff_ne.2 h2
      clear h1 h2
      go_wp2_with fail
      go_ret
      exact ⟨ret_bool HY.out, Below.refl _ _⟩
/-- Behind so many gaps that rise: the last one's end. -/
def gstep (a : Option Int) (g : Int × Int) : Option Int := match a with
  | none => none
  | some last => if g.1 < last + 2 ∨ g.2 < g.1 ∨ 65535 < g.2 then none else some g.2
def risO (L : List (Int × Int)) : Option Int := L.foldl gstep (some 0)
theorem risO_snoc (L : List (Int × Int)) (g : Int × Int) : risO (L ++ [g]) = gstep (risO L) g := by unfold risO; rw [List.foldl_append]; rfl
theorem foldl_none (L : List (Int × Int)) : L.foldl gstep none = none := by
  induction L with
  | nil => rfl
  | cons g r ih => exact ih
theorem risO_none {L : List (Int × Int)} {i : Nat} (h : risO (L.take i) = none) : risO L = none := by
  have e : L = L.take i ++ L.drop i := (List.take_append_drop i L).symm
  rw [e]
  unfold risO at h ⊢
  rw [List.foldl_append, h]
  exact foldl_none _
theorem szGa (g : Int × Int) : (Tryd.prog.info? 61).map (·.size) = some (#[.int .i64 g.1, .int .i64 g.2] : Array Value).size := by show _ = some 2; kernel_rfl
set_option maxHeartbeats 2000000 in
theorem rising_any {w : World} {B : Nat} {v : Value} {L : List (Int × Int)} (q : Row w B 2 v L.length (cellsG L)) (hB : B ≤ w.heap.size) (hn : L.length ≤ 20) : Calls Tryd.prog 44 #[v] w fun e w' => e = .returned (.bool (risO L).isSome) ∧ Below w.heap.size w w' := by
  obtain ⟨B0, hB0⟩ : ∃ B0, w.heap.size = B0 := ⟨_, rfl⟩
  have HB0 := Lib.hid hB0
  have HQ := Lib.hid (show ∀ w', Below B0 w w' → Row w' B 2 v L.length (cellsG L) from fun w' h => q.below (h.mono (by omega)))
  obtain ⟨rb, hrb⟩ : ∃ rb, (risO L).isSome = rb := ⟨_, rfl⟩
  rw [hrb]
  have HRB := Lib.hid hrb
  obtain ⟨oa, cap, hv, -, -⟩ := q.shape
  subst hv
  have bel0 : Below B0 w w := Below.refl _ _
  rw [hB0]
  clear hrb q hB0
  go_enter Tryd.func44, Tryd.ntmps44
  go_wp2_with fail
  go_loopw [3, 8] (fun s3 s8 wr => ∃ (i : Nat) (last : Int), s8 = .int .i64 (i : Nat) ∧ i ≤ L.length ∧ s3 = .int .i64 last ∧ (0 ≤ last ∧ last ≤ 65535) ∧ risO (L.take i) = some last ∧ Below B0 w wr) (fun _ s8 _ => L.length - (intOf s8).toNat)
  case atStart => exact ⟨0, 0, rfl, Nat.zero_le _, rfl, by decide, (by rw [List.take_zero]; rfl), bel0⟩
  case round =>
    rename World => wr
    clear bel0
    obtain ⟨i, last, rfl, hi, rfl, hlr, hris, bel⟩ := hrel
    by_cases hlt : i < L.length
    · have hii : (i : Int) < (L.length : Int) := by omega
      have hi0 : (0 : Int) ≤ (i : Int) := by omega
      obtain ⟨⟨g1, g2⟩, hx⟩ : ∃ x, L[i]? = some x := ⟨_, List.getElem?_eq_getElem hlt⟩
      obtain ⟨a, cap', hv, -, c0, c1⟩ := (HQ.out _ bel).two hlt (cellsG_at hx).1 (cellsG_at hx).2
      injection hv with hv1 hv2 hv3
      subst hv1
      subst hv3
      clear hv2
      have hpc : ∀ (j : Nat) u, (#[.int .i64 g1, .int .i64 g2] : Array Value)[j]? = some u → wr.cell? ((a.add (i * 2)).add j) = some u := fun j u hu => by
        rcases j with _ | _ | j
        · rw [add_z]; simp at hu; rw [← hu]; exact c0
        · rw [add_o]; simp at hu; rw [← hu]; exact c1
        · simp at hu
      have sz := szGa (g1, g2)
      dsimp only at sz
      have HX := Lib.hid (And.intro hx hris)
      have P2 := Blk.new wr 61 #[.int .i64 g1, .int .i64 g2]
      have bel2 := bel.alloc (by rw [← HB0.out]; exact bel.size) (.cells #[.int .i64 g1, .int .i64 g2] 61)
      clear hx hris c0 c1
      go_upto_region 5 with (refine wpList_load_from rfl 61 _ rfl (a.add (i * 2)) rfl #[.int .i64 g1, .int .i64 g2] _ hpc Tryd.underlying61 rfl sz ?_)
      obtain ⟨w2, hw2⟩ : ∃ w2, wr.alloc (.cells #[.int .i64 g1, .int .i64 g2] 61) = w2 := ⟨_, rfl⟩
      rw [hw2] at P2 bel2
      try rw [hw2]
      clear hw2 bel hpc sz
      obtain ⟨pb, hpb⟩ : ∃ pb, wr.heap.size = pb := ⟨_, rfl⟩
      rw [hpb] at P2
      try rw [hpb]
      clear hpb
      have p0 : w2.cell? ⟨pb, 0, none⟩ = some (.int .i64 g1) := P2.cell 0
      have p1 : w2.cell? ⟨pb, 1, none⟩ = some (.int .i64 g2) := P2.cell 1
      clear P2
      have HBL := Lib.hid bel2
      clear bel2
      by_cases hbad : g1 < last + 2 ∨ g2 < g1 ∨ 65535 < g2
      · have HY := Lib.hid (show rb = false by
          rw [← HRB.out, risO_none (i := i + 1) (by rw [take_snoc HX.out.1, risO_snoc, HX.out.2]; show (if g1 < last + 2 ∨ g2 < g1 ∨ 65535 < g2 then none else some g2) = none; rw [if_pos hbad])]
          rfl)
        by_cases e1 : g1 < last + 2
        · clear hbad
          go_wp2_with fail
          go_ret
          exact ⟨ret_bool HY.out.symm, HBL.out⟩
        · by_cases e2 : g2 < g1
          · clear hbad
            go_wp2_with fail
            go_ret
            exact ⟨ret_bool HY.out.symm, HBL.out⟩
          · have e3 : 65535 < g2 := by omega
            clear hbad
            go_wp2_with fail
            go_ret
            exact ⟨ret_bool HY.out.symm, HBL.out⟩
      · have e1 : ¬ g1 < last + 2 := by omega
        have e2 : ¬ g2 < g1 := by omega
        have e3 : ¬ 65535 < g2 := by omega
        have HR := Lib.hid (show risO (L.take (i + 1)) = some g2 by
          rw [take_snoc HX.out.1, risO_snoc, HX.out.2]
          show (if g1 < last + 2 ∨ g2 < g1 ∨ 65535 < g2 then none else some g2) = some g2
          rw [if_neg hbad])
        clear hbad
        go_wp2_with fail
        go_roundw
        case rel => exact ⟨i + 1, g2, by go_num, by omega, rfl, by omega, HR.out, HBL.out⟩
        case measure => simp [intOf]; omega
    · obtain rfl : i = L.length := by omega
      rw [List.take_length] at hris
      have HY := Lib.hid (show rb = true by rw [← HRB.out, hris]; rfl)
      have HBL := Lib.hid bel
      clear hris bel
      go_wp2_with fail
      go_ret
      exact ⟨ret_bool HY.out.symm, HBL.out⟩
end Go.Proofs.YtlaemmplemngmaaDoor.ck
/- General words, over any program: two appends in a region that draws its order and then stores what came (KitU's way). -/
namespace Go.Proofs.YtlaemmplemngmaaDoor.kit
open Go.ChangeShapes Go.WideShapes Go.ChangeAt Go.RowKit
section
variable {P : Program} {ops : Array Oper} {Q : Exit → Act → World → Prop} {S : World → Prop} {cc : Nat}
def dappCB (ops : Array Oper) (L0 : Array Bool) (iE iM iB iA : Nat) : Bool :=
  Region.ready .any ops L0 == [iE, iB] && Region.ready .any ops (L0.setIfInBounds iE true) == [iM, iB] && Region.ready .any ops ((L0.setIfInBounds iE true).setIfInBounds iM true) == [iB]
    && Region.ready .any ops ((L0.setIfInBounds iE true).setIfInBounds iB true) == [iM] && Region.ready .any ops (L0.setIfInBounds iB true) == [iE]
    && Region.ready .any ops (((L0.setIfInBounds iE true).setIfInBounds iM true).setIfInBounds iB true) == [iA]
    && iE != iM && iE != iB && iM != iB
def dappCT (tE tM tB tA t1 tx n : Nat) : Bool :=
  tE != tM && tE != tB && tM != tB && tE != t1 && tE != tx && tM != tx && tB != t1 && decide (tE < n) && decide (tM < n) && decide (tB < n)
theorem wpAnyC_step {rs : List Nat} {fuel : Nat} {listed : Array Bool} {a : Act} {w : World} (hr : Region.ready .any ops listed = rs) (hne : rs ≠ [])
    (h : ∀ i ∈ rs, wpOp P ops Q i (fun a' w' => S w' ∧ wpAnyC P .any ops Q S cc fuel (listed.setIfInBounds i true) a' w') a w) : wpAnyC P .any ops Q S cc (fuel + 1) listed a w := by
  refine ⟨fun h0 => absurd (hr ▸ h0) hne, fun i hi => ?_⟩
  exact wpOp_mono (fun a' w' h' => ⟨fun _ _ => h'.1, h'.2⟩) (h i (hr ▸ hi))
theorem dapp_C {T SL : TypeId} {i0 : TypeInfo} {z : Value} {sz bytes g m bq : Nat} {sv xv : Value} {cells : List Value} {ITEM : Array Value} {fuel : Nat} {L0 : Array Bool} {a : Act} {w : World}
    (iE iM iB iA : Nat) (oE oM oB oA : Oper) (tE tM tB tA t1 tx : Nat)
    (hd : dappCB ops L0 iE iM iB iA = true) (htm : dappCT tE tM tB tA t1 tx a.tmps.size = true)
    (hE : ops[iE]? = some oE) (hM : ops[iM]? = some oM) (hB : ops[iB]? = some oB) (hA : ops[iA]? = some oA)
    (gE : oE.guard = none ∧ oE.dst = some tE) (gM : oM.guard = none ∧ oM.dst = some tM) (gB : oB.guard = none ∧ oB.dst = some tB) (gA : oA.guard = none ∧ oA.dst = some tA)
    (oM' : oM.op = .call { callee := .builtin .append, args := #[.tmp tE, .tmp t1], argTypes := #[SL, SL] }) (oA' : oA.op = .call { callee := .builtin .append, args := #[.tmp tM, .tmp tB], argTypes := #[SL, SL] })
    (rE : ∀ (b : Act) (v : World), (execOp b.eval oE).run P v = .ok (.value (.slice (some ⟨v.heap.size, 0, none⟩) 0 0)) (v.alloc (.cells #[] T)))
    (rB : ∀ (b : Act) (v : World), b.eval (.tmp tx) = xv → (execOp b.eval oB).run P v = .ok (.value (.slice (some ⟨v.heap.size, 0, none⟩) 1 1)) (v.alloc (.cells ITEM T)))
    (ht : P.underlying SL = some (.slice T)) (hi : P.info? T = some i0) (hz : i0.zero = some z) (hsize : i0.size = sz) (hby : i0.bytes = bytes) (hzs : z.cells.size = sz) (hsz : 0 < sz)
    (h1 : a.eval (.tmp t1) = sv) (hx : a.eval (.tmp tx) = xv) (src : w.ownsRow bq T sz sv m cells) (one1 : ∀ u ∈ cells, u.oneCell' = true) (oneI : ∀ u ∈ ITEM.toList, u.oneCell' = true) (hIT : ITEM.toList.length = 1 * sz)
    (h63 : m + 1 ≤ maxLen) (hbytes : (m + 1) * bytes ≤ 140737488355328) (hg : g ≤ w.heap.size) (hS : ∀ v : World, Below w.heap.size w v → S v)
    (fin : ∀ (vE vM vB : Value) (h c : Nat) (v : World), v.ownsRow g T sz (.slice (some ⟨h, 0, none⟩) (m + 1) c) (m + 1) (cells ++ ITEM.toList) → w.heap.size ≤ h → Below w.heap.size w v →
      wpAnyC P .any ops Q S cc fuel ((((L0.setIfInBounds iE true).setIfInBounds iM true).setIfInBounds iB true).setIfInBounds iA true) ((((a.put (some tE) vE).put (some tM) vM).put (some tB) vB).put (some tA) (.slice (some ⟨h, 0, none⟩) (m + 1) c)) v) :
    wpAnyC P .any ops Q S cc (fuel + 4) L0 a w := by
  simp only [dappCB, Bool.and_eq_true, beq_iff_eq, bne_iff_ne, ne_eq] at hd
  obtain ⟨⟨⟨⟨⟨⟨⟨⟨r0, r1⟩, r2⟩, r3⟩, r4⟩, r5⟩, nEM⟩, nEB⟩, nMB⟩ := hd
  simp only [dappCT, Bool.and_eq_true, bne_iff_ne, ne_eq, decide_eq_true_eq] at htm
  obtain ⟨⟨⟨⟨⟨⟨⟨⟨⟨uEM, uEB⟩, uMB⟩, uE1⟩, uEx⟩, uMx⟩, uB1⟩, lE⟩, lM⟩, lB⟩ := htm
  -- what comes last
  have tail : ∀ (vE vM : Value) (bI : Nat) (v : World), v.ownsRow g T sz vM m cells → (∀ k, vM.ownBlock = some k → w.heap.size ≤ k) → Blk v bI T ITEM → Below w.heap.size w v →
      wpAnyC P .any ops Q S cc (fuel + 1) (((L0.setIfInBounds iE true).setIfInBounds iM true).setIfInBounds iB true) (((a.put (some tE) vE).put (some tM) vM).put (some tB) (.slice (some ⟨bI, 0, none⟩) 1 1)) v := by
    intro vE vM bI v own hge B bel
    refine wpAnyC_step r5 (by simp) fun i hi' => ?_
    obtain rfl : i = iA := by simpa using hi'
    refine wpOp_of hA gA.1 ?_
    obtain ⟨h, c, v', hr, own', grow, hat, hlt⟩ := run_append_lies (P := P) v SL oA.type g T i0 z sz bytes ht hi hz hsize hby hzs hsz vM m cells own ⟨bI, 0, none⟩ 1 1 ITEM.toList hIT (World.news_of_block B) oneI (by omega) h63 hbytes (by have := bel.size; omega) v.heap.size rfl
    have bel' : Below w.heap.size w v' := bel.grown grow (by have := bel.size; omega) hge
    refine wp_append_src (.tmp tM) (.tmp tB) SL oA' (by rw [Act.eval_put_ne _ _ _ _ (Ne.symm uMB), Act.eval_put_same _ _ _ (by rw [Act.size_put]; exact lM)]) (Act.eval_put_same _ _ _ (by rw [Act.size_put, Act.size_put]; exact lB)) hr ?_
    rw [gA.2]
    refine ⟨hS _ bel', ?_⟩
    exact fin _ _ _ h c v' own' (hat.elim (hge h) (fun q => q ▸ bel.size)) bel'
  have refl := Below.refl w.heap.size w
  have belE : Below w.heap.size w (w.alloc (.cells #[] T)) := refl.alloc (Nat.le_refl _) _
  have belB : Below w.heap.size w (w.alloc (.cells ITEM T)) := refl.alloc (Nat.le_refl _) _
  have hm1 : 0 + m ≤ maxLen := by omega
  have hm2 : (0 + m) * bytes ≤ 140737488355328 := Nat.le_trans (Nat.mul_le_mul_right _ (by omega)) hbytes
  -- the first append, wherever it comes
  have first : ∀ (e : Nat) (v : World), Blk v e T #[] → w.heap.size ≤ e → Below w.heap.size w v → ∃ vM v', (Builtin.append_ #[SL, SL] oM.type #[.slice (some ⟨e, 0, none⟩) 0 0, sv]).run P v = .ok vM v' ∧ v'.ownsRow g T sz vM m cells ∧ v.grownBy v' (some e) ∧ (∀ k, vM.ownBlock = some k → w.heap.size ≤ k) ∧ Below w.heap.size w v' := by
    intro e v B he bel
    have own0 : v.ownsRow g T sz (.slice (some ⟨e, 0, none⟩) 0 0) 0 [] := own_none B (by omega) (by unfold maxLen; omega) (by simp)
    obtain ⟨vM, v', hr, own', grow, hat⟩ := run_append_src (P := P) SL oM.type ht hi hz hsize hby hzs hsz own0 (own_all src bel) one1 hm1 hm2 (by have := bel.size; omega)
    refine ⟨vM, v', hr, by simpa using own', grow, fun k hk => ?_, bel.grown grow (by have := bel.size; omega) (fun q hq => by simp [Value.ownBlock] at hq; omega)⟩
    rcases hat with q | q
    · rw [q] at hk; simp [Value.ownBlock] at hk; omega
    · rw [q] at hk; have := bel.size; simp at hk; omega
  refine wpAnyC_step r0 (by simp) fun i hi' => ?_
  simp only [List.mem_cons, List.not_mem_nil, or_false] at hi'
  rcases hi' with rfl | rfl
  · -- the first slice first
    refine wpOp_of hE gE.1 ?_
    unfold Oper.wp
    rw [rE]
    simp only [Oper.upon]
    rw [gE.2]
    refine ⟨hS _ belE, wpAnyC_step r1 (by simp) fun j hj => ?_⟩
    have B1 := Blk.new w T #[]
    simp only [List.mem_cons, List.not_mem_nil, or_false] at hj
    rcases hj with rfl | rfl
    · refine wpOp_of hM gM.1 ?_
      obtain ⟨vM, v', hr, own', grow, hge, bel'⟩ := first w.heap.size _ B1 (Nat.le_refl _) belE
      refine wp_append_src (.tmp tE) (.tmp t1) SL oM' (Act.eval_put_same _ _ _ lE) (by rw [Act.eval_put_ne _ _ _ _ uE1]; exact h1) hr ?_
      rw [gM.2]
      refine ⟨hS _ bel', wpAnyC_step r2 (by simp) fun j hj => ?_⟩
      obtain rfl : j = iB := by simpa using hj
      refine wpOp_of hB gB.1 ?_
      unfold Oper.wp
      rw [rB _ _ (by rw [Act.eval_put_ne _ _ _ _ uMx, Act.eval_put_ne _ _ _ _ uEx]; exact hx)]
      simp only [Oper.upon]
      rw [gB.2]
      have bel'' := bel'.alloc (by have := bel'.size; omega) (.cells ITEM T)
      exact ⟨hS _ bel'', tail _ _ _ _ (own_all own' ((Below.refl _ _).alloc (Nat.le_refl _) _)) hge (Blk.new _ _ _) bel''⟩
    · refine wpOp_of hB gB.1 ?_
      unfold Oper.wp
      rw [rB _ _ (by rw [Act.eval_put_ne _ _ _ _ uEx]; exact hx)]
      simp only [Oper.upon]
      rw [gB.2]
      have bel1 := belE.alloc (by simp) (.cells ITEM T)
      refine ⟨hS _ bel1, wpAnyC_step r3 (by simp) fun j hj => ?_⟩
      obtain rfl : j = iM := by simpa using hj
      refine wpOp_of hM gM.1 ?_
      obtain ⟨vM, v', hr, own', grow, hge, bel'⟩ := first w.heap.size _ (B1.alloc (.cells ITEM T)) (Nat.le_refl _) bel1
      have B2 : Blk v' (w.alloc (.cells #[] T)).heap.size T ITEM := (grow.block _ (by simp) (by simp)).trans (Blk.new (w.alloc (.cells #[] T)) T ITEM)
      refine wp_append_src (.tmp tE) (.tmp t1) SL oM' (by rw [Act.eval_put_ne _ _ _ _ (Ne.symm uEB)]; exact Act.eval_put_same _ _ _ lE) (by rw [Act.eval_put_ne _ _ _ _ uB1, Act.eval_put_ne _ _ _ _ uE1]; exact h1) hr ?_
      rw [gM.2, Array.setIfInBounds_comm _ _ (Ne.symm nMB), Act.put_comm _ _ _ (fun d hd q => by cases hd; cases q; exact uMB rfl)]
      exact ⟨hS _ bel', tail _ _ _ _ own' hge B2 bel'⟩
  · -- the item's slice first
    refine wpOp_of hB gB.1 ?_
    unfold Oper.wp
    rw [rB _ _ hx]
    simp only [Oper.upon]
    rw [gB.2]
    refine ⟨hS _ belB, wpAnyC_step r4 (by simp) fun j hj => ?_⟩
    obtain rfl : j = iE := by simpa using hj
    refine wpOp_of hE gE.1 ?_
    unfold Oper.wp
    rw [rE]
    simp only [Oper.upon]
    rw [gE.2]
    have bel1 := belB.alloc (by simp) (.cells #[] T)
    rw [Array.setIfInBounds_comm _ _ (Ne.symm nEB)]
    refine ⟨hS _ bel1, wpAnyC_step r3 (by simp) fun j hj => ?_⟩
    obtain rfl : j = iM := by simpa using hj
    refine wpOp_of hM gM.1 ?_
    obtain ⟨vM, v', hr, own', grow, hge, bel'⟩ := first _ _ (Blk.new (w.alloc (.cells ITEM T)) T #[]) (by simp) bel1
    have B2 : Blk v' w.heap.size T ITEM := (grow.block _ (by simp; omega) (by simp)).trans ((Blk.new w T ITEM).alloc (.cells #[] T))
    refine wp_append_src (.tmp tE) (.tmp t1) SL oM' (Act.eval_put_same _ _ _ (by rw [Act.size_put]; exact lE)) (by rw [Act.eval_put_ne _ _ _ _ uE1, Act.eval_put_ne _ _ _ _ uB1]; exact h1) hr ?_
    rw [gM.2, Array.setIfInBounds_comm _ _ (Ne.symm nMB), Act.put_comm a _ _ (fun d hd q => by cases hd; cases q; exact uEB rfl), Act.put_comm (a.put _ _) _ _ (fun d hd q => by cases hd; cases q; exact uMB rfl)]
    exact ⟨hS _ bel', tail _ _ _ _ own' hge B2 bel'⟩
/-- 'append(append([]T{}, src...), item)' in order. -/
theorem app2_run {T SL ty1 ty2 : TypeId} {i0 : TypeInfo} {z : Value} {sz bytes m bq : Nat} {sv : Value} {cells : List Value} (ITEM : Array Value) {w : World}
    (ht : P.underlying SL = some (.slice T)) (hi : P.info? T = some i0) (hz : i0.zero = some z) (hsize : i0.size = sz) (hby : i0.bytes = bytes) (hzs : z.cells.size = sz) (hsz : 0 < sz)
    (src : w.ownsRow bq T sz sv m cells) (one1 : ∀ u ∈ cells, u.oneCell' = true) (oneI : ∀ u ∈ ITEM.toList, u.oneCell' = true) (hIT : ITEM.toList.length = 1 * sz)
    (h63 : m + 1 ≤ maxLen) (hbytes : (m + 1) * bytes ≤ 140737488355328) :
    ∃ vM w9 h c w11, (Builtin.append_ #[SL, SL] ty1 #[.slice (some ⟨w.heap.size, 0, none⟩) 0 0, sv]).run P (w.alloc (.cells #[] T)) = .ok vM w9 ∧ (Builtin.append_ #[SL, SL] ty2 #[vM, .slice (some ⟨w9.heap.size, 0, none⟩) 1 1]).run P (w9.alloc (.cells ITEM T)) = .ok (.slice (some ⟨h, 0, none⟩) (m + 1) c) w11
      ∧ w11.ownsRow w.heap.size T sz (.slice (some ⟨h, 0, none⟩) (m + 1) c) (m + 1) (cells ++ ITEM.toList) ∧ w.heap.size ≤ h ∧ h < w11.heap.size ∧ Below w.heap.size w w9 ∧ Below w.heap.size w w11 := by
  have refl := Below.refl w.heap.size w
  have belE : Below w.heap.size w (w.alloc (.cells #[] T)) := refl.alloc (Nat.le_refl _) _
  have hm1 : 0 + m ≤ maxLen := by omega
  have hm2 : (0 + m) * bytes ≤ 140737488355328 := Nat.le_trans (Nat.mul_le_mul_right _ (by omega)) hbytes
  have own0 : (w.alloc (.cells #[] T)).ownsRow w.heap.size T sz (.slice (some ⟨w.heap.size, 0, none⟩) 0 0) 0 [] := own_none (Blk.new w T #[]) (Nat.le_refl _) (by unfold maxLen; omega) (by simp)
  obtain ⟨vM, w9, hr, own', grow, hat⟩ := run_append_src (P := P) SL ty1 ht hi hz hsize hby hzs hsz own0 (own_all src belE) one1 hm1 hm2 (by have := belE.size; omega)
  have hge : ∀ k, vM.ownBlock = some k → w.heap.size ≤ k := fun k hk => by
    rcases hat with q | q
    · rw [q] at hk; simp [Value.ownBlock] at hk; omega
    · rw [q] at hk; have := belE.size; simp at hk; omega
  have bel9 : Below w.heap.size w w9 := belE.grown grow (by have := belE.size; omega) (fun q hq => by simp [Value.ownBlock] at hq; omega)
  have bel10 := bel9.alloc bel9.size (.cells ITEM T)
  have own9 : (w9.alloc (.cells ITEM T)).ownsRow w.heap.size T sz vM m cells := own_all (by simpa using own') ((Below.refl _ _).alloc (Nat.le_refl _) _)
  obtain ⟨h, c, w11, hr2, own11, grow2, hat2, hlt⟩ := run_append_lies (P := P) (w9.alloc (.cells ITEM T)) SL ty2 w.heap.size T i0 z sz bytes ht hi hz hsize hby hzs hsz vM m cells own9 ⟨w9.heap.size, 0, none⟩ 1 1 ITEM.toList hIT (World.news_of_block (Blk.new _ _ _)) oneI (by omega) h63 hbytes (by have := bel10.size; omega) _ rfl
  exact ⟨vM, w9, h, c, w11, hr, hr2, own11, hat2.elim (hge h) (fun q => q ▸ bel10.size), hlt, bel9, bel10.grown grow2 (by have := bel10.size; omega) hge⟩
end
end Go.Proofs.YtlaemmplemngmaaDoor.kit
/- General words, over any program: a call of two results beside a struct made, in a region that draws its order (KitT's way). -/
namespace Go.Proofs.YtlaemmplemngmaaDoor.kit
open Go.ChangeShapes Go.WideShapes Go.ChangeAt Go.RowKit
section
variable {P : Program} {ops : Array Oper} {Q : Exit → Act → World → Prop} {S : World → Prop}
theorem run_extract {oi : Oper} {a : Act} {x : Operand} {k : Nat} {t u : Value} {v : World} (ho : oi.op = .extract x k) (hx : a.eval x = t) (hr : (Instr.extract t k).run P v = .ok u v) : (execOp a.eval oi).run P v = .ok (.value u) v := by
  unfold execOp
  simp only [ho, hx, Sem.run_bind, Sem.run_pure, Result.andThen_ok, hr]
theorem run_store_at {w : World} {h o : Nat} (ty : TypeId) {old cs : Array Value} (C : Cel w h o old) (hi : (P.info? ty).map (·.size) = some cs.size)
    (hs : old.size = cs.size) (h1 : cs.all (·.oneCell') = true) :
    (Instr.storeAt ty (.pointer (some ⟨h, o, none⟩)) (.agg cs)).run P w = .ok () (w.setCells h o cs.toList) := by
  simp only [Instr.storeAt, Instr.sureAddr, Sem.run_bind, Sem.run_pure, Result.andThen_ok, run_storeVar_at ty C hi hs h1]
/-- Two that may come in either order: a call, and what makes memory. -/
theorem call_make {iC iM : Nat} {oC oM : Oper} {dC dM fuel : Nat} {L : Array Bool} {a : Act} {w : World} {o : Obj} (r0 : Region.ready .any ops L = [iC, iM]) (r1 : Region.ready .any ops (L.setIfInBounds iM true) = [iC]) (r2 : (Region.ready .any ops (L.setIfInBounds iC true)).contains iM = true) (hne : iC ≠ iM) (hdd : dC ≠ dM)
    (hC : ops[iC]? = some oC) (hM : ops[iM]? = some oM) (gC : oC.guard = none) (gM : oM.guard = none) (eC : oC.dst = some dC) (eM : oM.dst = some dM)
    (f : FuncId) (fn : Func) (xs : Array Operand) (ts : Array TypeId) (hop : oC.op = .call { callee := .value (.func f), args := xs, argTypes := ts })
    (hf : P.funcs[f]? = some fn) (hn : (fn.name == "runtime.NumGoroutine") = false) (hb : fn.body.isNone = false) (vs : Array Value) (hx : xs.map a.eval = vs) (hx' : ∀ u, xs.map (a.put (some dM) u).eval = vs) {R : World → Ending → World → Prop}
    (hc : Calls P f vs w (R w)) (hc' : Calls P f vs (w.alloc o) (R (w.alloc o)))
    (rM : ∀ (b : Act) (v : World), (execOp b.eval oM).run P v = .ok (.value (.pointer (some ⟨v.heap.size, 0, none⟩))) (v.alloc o)) (hS : S (w.alloc o))
    (h1 : ∀ e w', R w e w' → ∃ v, e = .returned v ∧ S w' ∧ wpAnyH P .any ops Q S fuel (L.setIfInBounds iC true) (a.put (some dC) v) w')
    (h2 : ∀ e w', R (w.alloc o) e w' → ∃ v, e = .returned v ∧ S w' ∧ wpAnyH P .any ops Q S (fuel - 1) ((L.setIfInBounds iC true).setIfInBounds iM true) ((a.put (some dC) v).put (some dM) (.pointer (some ⟨w.heap.size, 0, none⟩))) w') (hfu : 0 < fuel) :
    wpAnyH P .any ops Q S (fuel + 1) L a w := by
  refine wpAnyH_step r0 (by simp) fun j hj => ?_
  simp only [List.mem_cons, List.not_mem_nil, or_false] at hj
  rcases hj with rfl | rfl
  · refine wpOp_of_if hC (step_call2 gC f fn xs ts hop hf hn hb vs hx hc fun e w' hR => ?_)
    obtain ⟨v, he, q1, q2⟩ := h1 e w' hR
    exact ⟨v, he, q1, eC ▸ q2⟩
  · refine wpOp_of hM gM ?_
    unfold Oper.wp
    rw [rM]
    simp only [Oper.upon]
    rw [eM]
    refine ⟨hS, ?_⟩
    obtain ⟨fl, rfl⟩ : ∃ fl, fuel = fl + 1 := ⟨fuel - 1, by omega⟩
    refine step_calls r1 hC gC eC f fn xs ts hop hf hn hb vs (hx' _) hc' fun e w' hR => ?_
    obtain ⟨v, he, q1, q2⟩ := h2 e w' hR
    refine ⟨v, he, q1, ?_⟩
    rw [Array.setIfInBounds_comm _ _ (Ne.symm hne), Act.put_comm a _ _ (fun d hd q => by cases hd; cases q; exact hdd rfl)]
    exact q2
theorem run_cmp_int {oi : Oper} {a : Act} {x y : Operand} {tx ty : TypeId} {k : IntKind} {p q : Int} {u : Value} {v : World} {op : BinOp} (ho : oi.op = .binOp op tx x y ty) (hop : op = .neq ∨ op = .eql) (hx : a.eval x = .int k p) (hy : a.eval y = .int k q) (hr : (binOp op tx (.int k p) (.int k q)).run P v = .ok u v) : (execOp a.eval oi).run P v = .ok (.value u) v := by
  unfold execOp
  rcases hop with rfl | rfl <;> simp [ho, hx, hy, eqGuard, hr]
theorem run_cmp_bool {oi : Oper} {a : Act} {x y : Operand} {tx ty : TypeId} {p q : Bool} {u : Value} {v : World} {op : BinOp} (ho : oi.op = .binOp op tx x y ty) (hop : op = .neq ∨ op = .eql) (hx : a.eval x = .bool p) (hy : a.eval y = .bool q) (hr : (binOp op tx (.bool p) (.bool q)).run P v = .ok u v) : (execOp a.eval oi).run P v = .ok (.value u) v := by
  unfold execOp
  rcases hop with rfl | rfl <;> simp [ho, hx, hy, eqGuard, hr]
theorem run_pick {oi : Oper} {a : Act} {c x y : Operand} {b : Bool} {u : Value} {v : World} (ho : oi.op = .pick c x y) (hc : a.eval c = .bool b) (hu : (if b then a.eval x else a.eval y) = u) : (execOp a.eval oi).run P v = .ok (.value u) v := by
  unfold execOp
  rw [ho]
  subst hu
  cases b <;> simp [hc, asBool]
theorem run_lens {oi : Oper} {a : Act} {x : Operand} {tx : TypeId} {s u : Value} {v : World} (ho : oi.op = .call { callee := .builtin .len, args := #[x], argTypes := #[tx] }) (hx : a.eval x = s) (hr : ∀ cs, (builtin .len #[tx] oi.type cs #[s]).run P v = .ok (.value u) v) : (execOp a.eval oi).run P v = .ok (.value u) v := by
  unfold execOp
  simp [ho, resolve, invoke, hx, hr]
theorem wanted_of {o ok : Oper} {k : Nat} {bb : Bool} {d : Nat} {a : Act} (hg : o.guard = some (k, bb)) (hk : ops[k]? = some ok) (hd : ok.dst = some d) (he : a.eval (.tmp d) = .bool bb) : Region.wanted o (yielded ops a.tmps) = true := by
  have h : a.tmps[d]? = some (.bool bb) := by
    have he' : a.tmps.getD d undef = .bool bb := he
    rw [Array.getD_eq_getD_getElem?] at he'
    cases hq : a.tmps[d]? with
    | none => rw [hq] at he'; cases he'
    | some u => rw [hq] at he'; exact congrArg some he'
  simp [Region.wanted, hg, yielded, hk, hd, h]
theorem take_run_g {i : Nat} {oi : Oper} {u : Value} {d : Nat} {fuel : Nat} {L : Array Bool} {a : Act} {w : World} (hi : ops[i]? = some oi) (hs : Region.noSelect ops = true) (hf : Region.free .any ops L i = true) (hr : (Region.ready .any ops L).contains i = true)
    (hg : Region.wanted oi (yielded ops a.tmps) = true) (hd : oi.dst = some d) (hQ : ∀ c a w, Q (.panic c) (a.put oi.dst u) w → Q (.panic c) a w) (hS : S w) (hrun : ∀ v, S v → (execOp a.eval oi).run P v = .ok (.value u) v)
    (h : wpAnyH P .any ops Q S fuel (L.setIfInBounds i true) (a.put (some d) u) w) : wpAnyH P .any ops Q S (fuel + 1) L a w :=
  wpAnyH_take hi hs hf hr hQ (.inl ⟨hg, hrun⟩) hS (hd ▸ h)
theorem step_calls_g {i : Nat} {o : Oper} {d fuel : Nat} {L : Array Bool} {a : Act} {w : World} (hr : Region.ready .any ops L = [i]) (hi : ops[i]? = some o) (hg : Region.wanted o (yielded ops a.tmps) = true) (hd : o.dst = some d) (f : FuncId) (fn : Func) (xs : Array Operand) (ts : Array TypeId) (hop : o.op = .call { callee := .value (.func f), args := xs, argTypes := ts })
    (hf : P.funcs[f]? = some fn) (hn : (fn.name == "runtime.NumGoroutine") = false) (hb : fn.body.isNone = false) (vs : Array Value) (hx : xs.map a.eval = vs) {v : Value} {R : World → Prop} (hc : Calls P f vs w fun e w' => e = .returned v ∧ R w')
    (h : ∀ w', R w' → S w' ∧ wpAnyH P .any ops Q S fuel (L.setIfInBounds i true) (a.put (some d) v) w') : wpAnyH P .any ops Q S (fuel + 1) L a w :=
  wpAnyH_step hr (by simp) fun j hj => by
    obtain rfl : j = i := by simpa using hj
    refine wpOp_of_if hi (step_callg hg f fn xs ts hop hf hn hb vs hx hc fun w' hR => ?_)
    have := h w' hR
    exact ⟨this.1, hd ▸ this.2⟩
end
end Go.Proofs.YtlaemmplemngmaaDoor.kit
/- General words, over any program: long chains of '&&' and '||', operation by operation, with conditions that are not known. -/
namespace Go.Proofs.YtlaemmplemngmaaDoor.kit
open Go.ChangeShapes Go.WideShapes Go.ChangeAt Go.RowKit
section
variable {P : Program} {ops : Array Oper} {Q : Exit → Act → World → Prop}
theorem kp {a b : Act} {d t : Nat} {u v : Value} (h : b = a.put (some d) u) (hne : d ≠ t) (f : a.eval (.tmp t) = v) : b.eval (.tmp t) = v := by rw [h]; exact (Act.eval_put_ne _ d t _ hne).trans f
theorem nw {a b : Act} {d n : Nat} {u : Value} (h : b = a.put (some d) u) (hz : a.tmps.size = n) (hd : d < n) : b.eval (.tmp d) = u := by rw [h]; exact Act.eval_put_same _ _ _ (by rw [hz]; exact hd)
theorem sp {a b : Act} {d n : Nat} {u : Value} (h : b = a.put (some d) u) (hz : a.tmps.size = n) : b.tmps.size = n := by rw [h]; exact (Act.size_put _ _ _).trans hz
theorem tmp_of {a : Act} {d : Nat} {b : Bool} (he : a.eval (.tmp d) = .bool b) : a.tmps[d]? = some (.bool b) := by
  have he' : a.tmps.getD d undef = .bool b := he
  rw [Array.getD_eq_getD_getElem?] at he'
  cases hq : a.tmps[d]? with
  | none => rw [hq] at he'; cases he'
  | some u => rw [hq] at he'; exact congrArg some he'
theorem wanted_eq {o : Oper} {k : Nat} {bb b : Bool} {dk : Nat} {a : Act} (hg : o.guard = some (k, bb)) (hk : (ops[k]?).bind (·.dst) = some dk) (he : a.eval (.tmp dk) = .bool b) : Region.wanted o (yielded ops a.tmps) = (b == bb) := by
  have h := tmp_of he
  cases b <;> cases bb <;> simp [Region.wanted, hg, yielded, hk, h]
theorem list_val {o : Oper} {rest : List Oper} {a : Act} {w : World} {u : Value} {d : Nat} (hg : o.guard = none) (hd : o.dst = some d) (hrun : (execOp a.eval o).run P w = .ok (.value u) w) (h : wpList P ops Q rest (a.put (some d) u) w) : wpList P ops Q (o :: rest) a w :=
  wpList_plain hg fun _ hK => wp_val hrun hd (hK _ _ h)
/-- What stands in a slot, if a condition holds. -/
def cv (c : Bool) (u : Value) : Value := if c = true then u else undef
theorem cv_true (u : Value) : cv true u = u := rfl
theorem cv_of {c : Bool} {u : Value} (h : c = true) : cv c u = u := if_pos h
theorem wanted_no {o : Oper} {k : Nat} {bb : Bool} {dk : Nat} {a : Act} (hg : o.guard = some (k, bb)) (hk : (ops[k]?).bind (·.dst) = some dk) (he : a.eval (.tmp dk) = undef) : Region.wanted o (yielded ops a.tmps) = false := by
  have he' : a.tmps.getD dk undef = undef := he
  rw [Array.getD_eq_getD_getElem?] at he'
  cases hq : a.tmps[dk]? with
  | none => simp [Region.wanted, hg, yielded, hk, hq]
  | some u =>
    rw [hq] at he'
    have hu : u = undef := he'
    subst hu
    simp [Region.wanted, hg, yielded, hk, hq, undef]
theorem list_if {o : Oper} {rest : List Oper} {a : Act} {w : World} {u : Value} {d k dk : Nat} {b bb c c' : Bool} (hg : o.guard = some (k, bb)) (hk : (ops[k]?).bind (·.dst) = some dk) (he : a.eval (.tmp dk) = cv c (.bool b)) (hd : o.dst = some d) (hc : (c && (b == bb)) = c') (hrun : c' = true → (execOp a.eval o).run P w = .ok (.value u) w)
    (h : wpList P ops Q rest (a.put (some d) (cv c' u)) w) : wpList P ops Q (o :: rest) a w := by
  have hw : Region.wanted o (yielded ops a.tmps) = c' := by
    rw [← hc]
    cases c with
    | true => rw [cv_true] at he; rw [wanted_eq hg hk he, Bool.true_and]
    | false => rw [wanted_no hg hk he, Bool.false_and]
  by_cases hb : c' = true
  · rw [cv_of hb] at h
    refine wpList_step fun K hK => ?_
    rw [if_pos (by rw [hw, hb])]
    exact wp_val (hrun hb) hd (hK _ _ h)
  · rw [show cv c' u = undef from if_neg hb] at h
    refine wpList_step fun K hK => ?_
    rw [if_neg (by rw [hw]; exact hb)]
    rw [hd]
    exact hK _ _ h
theorem abs_list {rest : List Oper} (a : Act) {w : World} (h : ∀ b : Act, b = a → wpList P ops Q rest b w) : wpList P ops Q rest a w := h a rfl
theorem run_not {oi : Oper} {a : Act} {x : Operand} {ty : TypeId} {b : Bool} {v : World} (ho : oi.op = .unOp .not ty x) (hx : a.eval x = .bool b) : (execOp a.eval oi).run P v = .ok (.value (.bool (!b))) v := by
  unfold execOp
  simp [ho, hx, Op.unary, asBool]
theorem run_ord {oi : Oper} {a : Act} {x y : Operand} {tx ty : TypeId} {s j u : Value} {v : World} {op : BinOp} (ho : oi.op = .binOp op tx x y ty) (hop : op = .lss ∨ op = .gtr ∨ op = .leq ∨ op = .geq ∨ op = .add ∨ op = .sub ∨ op = .and ∨ op = .andNot) (hx : a.eval x = s) (hy : a.eval y = j) (hr : (binOp op tx s j).run P v = .ok u v) : (execOp a.eval oi).run P v = .ok (.value u) v := by
  unfold execOp
  rcases hop with rfl | rfl | rfl | rfl | rfl | rfl | rfl | rfl <;> simp [ho, hx, hy, eqGuard, hr]
theorem run_cmp_str {oi : Oper} {a : Act} {x y : Operand} {tx ty : TypeId} {p q : ByteArray} {u : Value} {v : World} {op : BinOp} (ho : oi.op = .binOp op tx x y ty) (hop : op = .neq ∨ op = .eql) (hx : a.eval x = .string p) (hy : a.eval y = .string q) (hr : (binOp op tx (.string p) (.string q)).run P v = .ok u v) : (execOp a.eval oi).run P v = .ok (.value u) v := by
  unfold execOp
  rcases hop with rfl | rfl <;> simp [ho, hx, hy, eqGuard, hr]
end
end Go.Proofs.YtlaemmplemngmaaDoor.kit
/- Layer 6: has a chunk what those of its type have not? The document's chain (gen-ckd.py wrote this). -/
namespace Go.Proofs.YtlaemmplemngmaaDoor.ck
open Go.ChangeShapes Go.WideShapes Go.ChangeAt Go.RowKit kit oct par
set_option maxRecDepth 100000

theorem eval_const (a : Act) (v : Value) : a.eval (.const v) = v := rfl
theorem neq_i3 (x y : Int) (W : World) : (binOp .neq 3 (.int .i64 x) (.int .i64 y)).run Tryd.prog W = .ok (.bool (x != y)) W := by go_simp
theorem eql_i3 (x y : Int) (W : World) : (binOp .eql 3 (.int .i64 x) (.int .i64 y)).run Tryd.prog W = .ok (.bool (x == y)) W := by go_simp
theorem neq_i22 (x y : Int) (W : World) : (binOp .neq 27 (.int .u32 x) (.int .u32 y)).run Tryd.prog W = .ok (.bool (x != y)) W := by go_simp
theorem eql_i22 (x y : Int) (W : World) : (binOp .eql 27 (.int .u32 x) (.int .u32 y)).run Tryd.prog W = .ok (.bool (x == y)) W := by go_simp
theorem neq_s (x y : ByteArray) (W : World) : (binOp .neq 9 (.string x) (.string y)).run Tryd.prog W = .ok (.bool (!(x.toList == y.toList))) W := by go_simp
theorem eql_s (x y : ByteArray) (W : World) : (binOp .eql 9 (.string x) (.string y)).run Tryd.prog W = .ok (.bool (x.toList == y.toList)) W := by go_simp
theorem lss_i3 (x y : Int) (W : World) : (binOp .lss 3 (.int .i64 x) (.int .i64 y)).run Tryd.prog W = .ok (.bool (decide (x < y))) W := by go_simp
theorem gtr_i3 (x y : Int) (W : World) : (binOp .gtr 3 (.int .i64 x) (.int .i64 y)).run Tryd.prog W = .ok (.bool (decide (y < x))) W := by go_simp
theorem leq_i3 (x y : Int) (W : World) : (binOp .leq 3 (.int .i64 x) (.int .i64 y)).run Tryd.prog W = .ok (.bool (decide (x ≤ y))) W := by go_simp
theorem geq_i3 (x y : Int) (W : World) : (binOp .geq 3 (.int .i64 x) (.int .i64 y)).run Tryd.prog W = .ok (.bool (decide (y ≤ x))) W := by go_simp
theorem add_n (x y : Nat) (h : x + y ≤ 1000000) (W : World) : (binOp .add 3 (.int .i64 (x : Nat)) (.int .i64 (y : Nat))).run Tryd.prog W = .ok (.int .i64 ((x + y : Nat) : Nat)) W := by
  have h1 : IntKind.i64.wrap ((x : Int) + (y : Int)) = ((x + y : Nat) : Int) := by rw [IntWalk.i64_in _ (by omega)]; omega
  go_simp
theorem len_sl23 (o : Option Addr) (n c : Nat) (W : World) (cs) : (builtin .len #[28] 3 cs #[.slice o n c]).run Tryd.prog W = .ok (.value (.int .i64 (n : Nat))) W := by go_simp
theorem len_sl24 (o : Option Addr) (n c : Nat) (W : World) (cs) : (builtin .len #[29] 3 cs #[.slice o n c]).run Tryd.prog W = .ok (.value (.int .i64 (n : Nat))) W := by go_simp
theorem len_sl25 (o : Option Addr) (n c : Nat) (W : World) (cs) : (builtin .len #[30] 3 cs #[.slice o n c]).run Tryd.prog W = .ok (.value (.int .i64 (n : Nat))) W := by go_simp
theorem len_sl26 (o : Option Addr) (n c : Nat) (W : World) (cs) : (builtin .len #[31] 3 cs #[.slice o n c]).run Tryd.prog W = .ok (.value (.int .i64 (n : Nat))) W := by go_simp
theorem len_st (s : ByteArray) (W : World) (cs) : (builtin .len #[9] 3 cs #[.string s]).run Tryd.prog W = .ok (.value (.int .i64 (s.size : Nat))) W := by go_simp
def hasV (t1B t2B t3B t4B t5B t6B t7B t8B t9B t10B t11B t12B t13B t14B t15B t16B t17B t18B t19B t20B t21B t22B t23B t24B t25B t26B t27B : Bool) : Bool := ((((((((((t10B && (!((((t1B || t2B) || t3B) || t4B) || t5B))) || ((t11B && t12B) && t13B)) || ((t14B && t12B) && t13B)) || (t15B && t12B)) || (t16B && (!((((t1B || t6B) || t7B) || t8B) || t9B)))) || (((t17B || t18B) || t19B) && t20B)) || ((t21B && t20B) && t22B)) || ((t23B && t20B) && t24B)) || (t25B && t26B)) || (t27B && t22B))
def hasF (X : Ck) (nP nK nG nD : Nat) (kv : Int) : Bool := hasV (((kv : Int) == (0 : Int))) (((kv : Int) == (1 : Int))) (((kv : Int) == (3 : Int))) (((kv : Int) == (7 : Int))) (((kv : Int) == (16 : Int))) (((kv : Int) == (4 : Int))) (((kv : Int) == (10 : Int))) (((kv : Int) == (15 : Int))) (((kv : Int) == (20 : Int))) (((X.tsn : Int) != (0 : Int))) (((X.st : Int) != (0 : Int))) (((kv : Int) != (0 : Int))) (((kv : Int) != (15 : Int))) (((X.ss : Int) != (0 : Int))) (((X.pr : Int) != (0 : Int))) ((!(X.d.toList == (⟨#[]⟩ : ByteArray).toList))) (((X.tg : Int) != (0 : Int))) (((X.ou : Int) != (0 : Int))) (((X.ii : Int) != (0 : Int))) (((kv : Int) != (1 : Int))) (((X.rw : Int) != (0 : Int))) (((kv : Int) != (3 : Int))) (decide ((0 : Int) < ((nP : Nat) : Int))) (((kv : Int) != (16 : Int))) (decide ((0 : Int) < ((nK : Nat) : Int))) (((kv : Int) != (6 : Int))) (decide ((0 : Int) < (((nG + nD : Nat) : Nat) : Int)))
end Go.Proofs.YtlaemmplemngmaaDoor.ck
/- General words: a call, and a row that is built, in a long chain, where it is not known whether they happen. -/
namespace Go.Proofs.YtlaemmplemngmaaDoor.kit
open Go.ChangeShapes Go.WideShapes Go.ChangeAt Go.RowKit
section
variable {P : Program} {ops : Array Oper} {Q : Exit → Act → World → Prop}
theorem list_call_if {o : Oper} {rest : List Oper} {a : Act} {w : World} {u : Value} {d k dk : Nat} {b bb c c' : Bool} (hg : o.guard = some (k, bb)) (hk : (ops[k]?).bind (·.dst) = some dk) (he : a.eval (.tmp dk) = cv c (.bool b)) (hd : o.dst = some d) (hc : (c && (b == bb)) = c')
    (f : FuncId) (fn : Func) (xs : Array Operand) (ts : Array TypeId) (hop : o.op = .call { callee := .value (.func f), args := xs, argTypes := ts }) (hf : P.funcs[f]? = some fn) (hn : (fn.name == "runtime.NumGoroutine") = false) (hb : fn.body.isNone = false)
    (vs : Array Value) (hx : c' = true → xs.map a.eval = vs) {R : World → Prop} (hcall : c' = true → Calls P f vs w fun e w' => e = .returned u ∧ R w') (hR0 : R w)
    (h : ∀ w', R w' → wpList P ops Q rest (a.put (some d) (cv c' u)) w') : wpList P ops Q (o :: rest) a w := by
  have hw : Region.wanted o (yielded ops a.tmps) = c' := by
    rw [← hc]
    cases c with
    | true => rw [cv_true] at he; rw [wanted_eq hg hk he, Bool.true_and]
    | false => rw [wanted_no hg hk he, Bool.false_and]
  refine wpList_step fun K hK => ?_
  by_cases hb' : c' = true
  · rw [cv_of hb'] at h
    exact step_callg (hw.trans hb') f fn xs ts hop hf hn hb vs (hx hb') (hcall hb') (fun w' hR => by rw [hd]; exact hK _ _ (h w' hR))
  · rw [show cv c' u = undef from if_neg hb'] at h
    rw [if_neg (by rw [hw]; exact hb')]
    rw [hd]
    exact hK _ _ (h w hR0)
theorem list_call {o : Oper} {rest : List Oper} {a : Act} {w : World} {u : Value} {d : Nat} (hg : o.guard = none) (hd : o.dst = some d)
    (f : FuncId) (fn : Func) (xs : Array Operand) (ts : Array TypeId) (hop : o.op = .call { callee := .value (.func f), args := xs, argTypes := ts }) (hf : P.funcs[f]? = some fn) (hn : (fn.name == "runtime.NumGoroutine") = false) (hb : fn.body.isNone = false)
    (vs : Array Value) (hx : xs.map a.eval = vs) {R : World → Prop} (hcall : Calls P f vs w fun e w' => e = .returned u ∧ R w')
    (h : ∀ w', R w' → wpList P ops Q rest (a.put (some d) u) w') : wpList P ops Q (o :: rest) a w :=
  wpList_step fun K hK => step_call hg f fn xs ts hop hf hn hb vs hx hcall (fun w' hR => by rw [hd]; exact hK _ _ (h w' hR))
/-- A row, or none. -/
theorem list_make_if {o : Oper} {rest : List Oper} {a : Act} {w w1 : World} {u : Value} {d k dk : Nat} {b bb c c' : Bool} (hg : o.guard = some (k, bb)) (hk : (ops[k]?).bind (·.dst) = some dk) (he : a.eval (.tmp dk) = cv c (.bool b)) (hd : o.dst = some d) (hc : (c && (b == bb)) = c') (hrun : c' = true → (execOp a.eval o).run P w = .ok (.value u) w1)
    (h : ∀ w', (c' = true → w' = w1) → (c' = false → w' = w) → wpList P ops Q rest (a.put (some d) (cv c' u)) w') : wpList P ops Q (o :: rest) a w := by
  have hw : Region.wanted o (yielded ops a.tmps) = c' := by
    rw [← hc]
    cases c with
    | true => rw [cv_true] at he; rw [wanted_eq hg hk he, Bool.true_and]
    | false => rw [wanted_no hg hk he, Bool.false_and]
  refine wpList_step fun K hK => ?_
  by_cases hb : c' = true
  · rw [cv_of hb] at h
    rw [if_pos (by rw [hw, hb])]
    exact wp_val (hrun hb) hd (hK _ _ (h _ (fun _ => rfl) (fun q => by rw [hb] at q; cases q)))
  · rw [show cv c' u = undef from if_neg hb] at h
    rw [if_neg (by rw [hw]; exact hb)]
    rw [hd]
    exact hK _ _ (h _ (fun q => absurd q hb) (fun _ => rfl))
theorem run_build4 {oi : Oper} {a : Act} {x0 x1 x2 x3 : Operand} {ty : TypeId} {u0 u1 u2 u3 s : Value} {v v' : World} (ho : oi.op = .buildSlice ty 4 #[(0, x0), (1, x1), (2, x2), (3, x3)]) (h0 : a.eval x0 = u0) (h1 : a.eval x1 = u1) (h2 : a.eval x2 = u2) (h3 : a.eval x3 = u3) (hr : (Instr.buildSlice ty 4 #[(0, u0), (1, u1), (2, u2), (3, u3)]).run P v = .ok s v') : (execOp a.eval oi).run P v = .ok (.value s) v' := by
  unfold execOp
  simp [ho, h0, h1, h2, h3, hr]
/-- A slot's value handed back at the end. -/
theorem results_slot {fn : Func} {a : Act} {w : World} {k : Nat} {u : Value} (hfn : ∀ W : World, (results fn a.tmps).run P W = (pure (f := Sem) (a.tmps.getD k undef)).run P W) (he : a.eval (.tmp k) = u) : (results fn a.tmps).run P w = .ok u w := by
  rw [hfn]
  have he' : a.tmps.getD k undef = u := he
  rw [he']
  rfl
end
end Go.Proofs.YtlaemmplemngmaaDoor.kit
/- Layer 6: flags that may be, by the program. -/
namespace Go.Proofs.YtlaemmplemngmaaDoor.ck
open Go.ChangeShapes Go.WideShapes Go.ChangeAt Go.RowKit kit oct par chk
set_option maxRecDepth 100000

theorem andN (f : Int) (k : Nat) (m : Int) (hm : m = ((2 ^ k - 1 : Nat) : Int)) (hk : k ≤ 8) (h1 : -9223372036854775808 ≤ f) (h2 : f ≤ 9223372036854775807) : (bits .andNot .i64 f m == 0) = decide (0 ≤ f ∧ f ≤ m) := by
  subst hm
  rw [Bool.eq_iff_iff, beq_iff_eq, decide_eq_true_iff]
  exact andNot_i64 f k hk h1 h2
theorem kn_kind (t : Int) : knB t = !(decide (kindV t = 20)) := by
  unfold knB kindV
  rw [Bool.eq_iff_iff, decide_eq_true_iff, Bool.not_eq_true', decide_eq_false_iff_not]
  (repeat' split) <;> omega
theorem flagsMay_any (t f : Int) (h1 : -9223372036854775808 ≤ f) (h2 : f ≤ 9223372036854775807) (w : World) : Calls Tryd.prog 40 #[.int .i64 t, .int .i64 f] w fun e w' => e = .returned (.bool (flMay t f)) ∧ Below w.heap.size w w' := by
  obtain ⟨rb, hrb⟩ : ∃ rb, flMay t f = rb := ⟨_, rfl⟩
  rw [hrb]
  have e0 := andN f 0 0 rfl (by decide) h1 h2
  have e1 := andN f 1 1 rfl (by decide) h1 h2
  have e3 := andN f 2 3 rfl (by decide) h1 h2
  have e7 := andN f 3 7 rfl (by decide) h1 h2
  have e8 := andN f 8 255 rfl (by decide) h1 h2
  have HE := Lib.hid (And.intro e0 (And.intro e1 (And.intro e3 (And.intro e7 e8))))
  clear e0 e1 e3 e7 e8 h1 h2
  have HRB := Lib.hid hrb
  clear hrb
  have hk := known_any t w
  have hkk := kn_kind t
  obtain ⟨kn, hkn⟩ : ∃ kn, knB t = kn := ⟨_, rfl⟩
  rw [hkn] at hk hkk
  clear hkn
  by_cases t0 : t = 0
  · subst t0
    have HY := Lib.hid (show rb = _ from HRB.out.symm.trans (show flMay 0 f = _ from HE.out.2.2.2.1.symm))
    clear hk hkk
    go_enter Tryd.func40, Tryd.ntmps40
    go_wp2_with fail
    go_ret
    exact ⟨ret_bool HY.out.symm, Below.refl _ _⟩
  by_cases t6 : t = 6
  · subst t6
    have HY := Lib.hid (show rb = _ from HRB.out.symm.trans (show flMay 6 f = _ from HE.out.2.2.1.symm))
    clear hk hkk
    go_enter Tryd.func40, Tryd.ntmps40
    go_wp2_with fail
    go_ret
    exact ⟨ret_bool HY.out.symm, Below.refl _ _⟩
  by_cases t9 : t = 9
  · subst t9
    have HY := Lib.hid (show rb = _ from HRB.out.symm.trans (show flMay 9 f = _ from HE.out.2.2.1.symm))
    clear hk hkk
    go_enter Tryd.func40, Tryd.ntmps40
    go_wp2_with fail
    go_ret
    exact ⟨ret_bool HY.out.symm, Below.refl _ _⟩
  by_cases t14 : t = 14
  · subst t14
    have HY := Lib.hid (show rb = _ from HRB.out.symm.trans (show flMay 14 f = _ from HE.out.2.1.symm))
    clear hk hkk
    go_enter Tryd.func40, Tryd.ntmps40
    go_wp2_with fail
    go_ret
    exact ⟨ret_bool HY.out.symm, Below.refl _ _⟩
  have f1 : (t == 0) = false := beq_eq_false_iff_ne.2 t0
  have f2 : (t == 6) = false := beq_eq_false_iff_ne.2 t6
  have f3 : (t == 9) = false := beq_eq_false_iff_ne.2 t9
  have f4 : (t == 14) = false := beq_eq_false_iff_ne.2 t14
  have HF : flMay t f = if kindV t = 20 then decide (0 ≤ f ∧ f ≤ 255) else decide (0 ≤ f ∧ f ≤ 0) := by
    unfold flMay flagsV
    rw [if_neg t0, if_neg (by omega), if_neg t14]
    split <;> rfl
  rcases kn with _ | _
  · have k20 : kindV t = 20 := by simpa using hkk
    have HY := Lib.hid (show rb = _ from HRB.out.symm.trans (HF.trans ((if_pos k20).trans HE.out.2.2.2.2.symm)))
    clear t0 t6 t9 t14 HF hkk k20
    go_enter Tryd.func40, Tryd.ntmps40
    go_wp2_with fail
    refine hk.mono ?_
    rintro e w' ⟨rfl, hb⟩
    clear hk
    go_wp2_with fail
    go_ret
    exact ⟨ret_bool HY.out.symm, hb⟩
  · have k20 : ¬ kindV t = 20 := by simpa using hkk
    have HY := Lib.hid (show rb = _ from HRB.out.symm.trans (HF.trans ((if_neg k20).trans HE.out.1.symm)))
    clear t0 t6 t9 t14 HF hkk k20
    go_enter Tryd.func40, Tryd.ntmps40
    go_wp2_with fail
    refine hk.mono ?_
    rintro e w' ⟨rfl, hb⟩
    clear hk
    go_wp2_with fail
    go_ret
    exact ⟨ret_bool HY.out.symm, hb⟩
end Go.Proofs.YtlaemmplemngmaaDoor.ck
/- Layer 6: few gaps and dups; what is left when all that a type has is taken away (gen-ckf.py wrote this). -/
namespace Go.Proofs.YtlaemmplemngmaaDoor.ck
open Go.ChangeShapes Go.WideShapes Go.ChangeAt Go.RowKit kit oct par chk
set_option maxRecDepth 100000

def fewV (t1B t2B : Bool) : Bool := (t1B && t2B)
def fewF (nG nD : Nat) : Bool := fewV (decide (((nG : Nat) : Int) ≤ (16 : Int))) (decide (((nD : Nat) : Int) ≤ (16 : Int)))
theorem fewF_eq (nG nD : Nat) : fewF nG nD = (decide (nG ≤ 16) && decide (nD ≤ 16)) := by
  unfold fewF fewV
  rw [Bool.eq_iff_iff]
  simp
  omega
set_option maxHeartbeats 2000000 in
theorem few_any (X : Ck) (oP oK oG oD : Option Addr) (nP cP nK cK nG cG nD cD : Nat) (w : World) : Calls Tryd.prog 22 #[.agg (ckc X (.slice oP nP cP) (.slice oK nK cK) (.slice oG nG cG) (.slice oD nD cD))] w fun e w' => e = .returned (.bool (fewF nG nD)) ∧ Below w.heap.size w w' := by
  obtain ⟨rb, hrb⟩ : ∃ rb, fewF nG nD = rb := ⟨_, rfl⟩
  rw [hrb]
  have HRB := Lib.hid hrb
  clear hrb
  have X0 := Blk.new w 33 (ckc X (.slice oP nP cP) (.slice oK nK cK) (.slice oG nG cG) (.slice oD nD cD))
  have bel0 := (Below.refl w.heap.size w).alloc (Nat.le_refl _) (.cells (ckc X (.slice oP nP cP) (.slice oK nK cK) (.slice oG nG cG) (.slice oD nD cD)) 33)
  unfold ckc at X0 bel0 ⊢
  go_enter Tryd.func22, Tryd.ntmps22
  go_upto_region 1 with fail
  obtain ⟨w0, hw0⟩ : ∃ w0, w.alloc (.cells #[.int .i64 X.ty, .int .i64 X.fl, .int .u32 X.tsn, .int .i64 X.st, .int .i64 X.ss, .int .u32 X.pr, .string X.d, .int .u32 X.tg, .int .u32 X.rw, .int .i64 X.ou, .int .i64 X.ii, .slice oP nP cP, .slice oK nK cK, .slice oG nG cG, .slice oD nD cD] 33) = w0 := ⟨_, rfl⟩
  rw [hw0] at X0 bel0
  try rw [hw0]
  clear hw0
  obtain ⟨cb, hcb⟩ : ∃ cb, w.heap.size = cb := ⟨_, rfl⟩
  have hcl := X0.lt
  rw [hcb] at X0 hcl
  try rw [hcb]
  obtain ⟨t1B, ht1B⟩ : ∃ b : Bool, decide (((nG : Nat) : Int) ≤ (16 : Int)) = b := ⟨_, rfl⟩
  obtain ⟨t2B, ht2B⟩ : ∃ b : Bool, decide (((nD : Nat) : Int) ≤ (16 : Int)) = b := ⟨_, rfl⟩
  go_upto_region 1 with fail
  refine wp_region_lit ?_
  refine abs_list _ (fun ac hac => ?_)
  have hsz : ac.tmps.size = 13 := by rw [hac]; rfl
  have f1 : ac.eval (.tmp 1) = .pointer (some ⟨cb, 0, none⟩) := by rw [hac]; rfl
  have HB := Lib.hid hac
  clear hac
  refine list_val (u := .pointer (some ⟨cb, 13, none⟩)) rfl rfl (run_field (s := .pointer (some ⟨cb, 0, none⟩)) rfl f1 (by kernel_rfl)) ?_
  refine abs_list _ (fun a1 h1 => ?_)
  have z1 := sp h1 hsz
  replace f1 := kp h1 (by decide) f1
  have f3 := nw h1 hsz (by decide)
  replace h1 := Lib.hid h1
  refine list_val (u := .slice oG nG cG) rfl rfl (run_load1 (s := .pointer (some ⟨cb, 13, none⟩)) rfl f3 (by have c : w0.cell? ⟨cb, 13, none⟩ = some (.slice oG nG cG) := X0.cell 13; go_simp)) ?_
  refine abs_list _ (fun a2 h2 => ?_)
  have z2 := sp h2 z1
  replace f1 := kp h2 (by decide) f1
  have f4 := nw h2 z1 (by decide)
  clear f3 z1
  replace h2 := Lib.hid h2
  refine list_val (u := .int .i64 (nG : Nat)) rfl rfl (run_lens (s := .slice oG nG cG) rfl f4 (fun cs => len_sl25 _ _ _ _ cs)) ?_
  refine abs_list _ (fun a3 h3 => ?_)
  have z3 := sp h3 z2
  replace f1 := kp h3 (by decide) f1
  have f5 := nw h3 z2 (by decide)
  clear f4 z2
  replace h3 := Lib.hid h3
  refine list_val (u := .bool t1B) rfl rfl (run_ord (s := .int .i64 (nG : Nat)) (j := .int .i64 16) rfl (.inr (.inr (.inl rfl))) f5 rfl ((leq_i3 _ _ _).trans (by rw [ht1B]))) ?_
  refine abs_list _ (fun a4 h4 => ?_)
  have z4 := sp h4 z3
  replace f1 := kp h4 (by decide) f1
  have f6 := nw h4 z3 (by decide)
  clear f5 z3
  replace h4 := Lib.hid h4
  refine list_val (u := .bool t1B) rfl rfl (run_move rfl f6 _) ?_
  refine abs_list _ (fun a5 h5 => ?_)
  have z5 := sp h5 z4
  replace f1 := kp h5 (by decide) f1
  have f7 := nw h5 z4 (by decide)
  clear f6 z4
  replace h5 := Lib.hid h5
  refine list_if (u := .pointer (some ⟨cb, 14, none⟩)) (b := t1B) (c := true) (c' := t1B) (dk := 7) rfl (by kernel_rfl) (f7.trans (cv_true _).symm) rfl (by cases t1B <;> rfl) (fun h => run_field (s := .pointer (some ⟨cb, 0, none⟩)) rfl f1 (by kernel_rfl)) ?_
  refine abs_list _ (fun a6 h6 => ?_)
  have z6 := sp h6 z5
  replace f1 := kp h6 (by decide) f1
  replace f7 := kp h6 (by decide) f7
  have f8 := nw h6 z5 (by decide)
  clear z5
  replace h6 := Lib.hid h6
  refine list_if (u := .slice oD nD cD) (b := t1B) (c := true) (c' := t1B) (dk := 7) rfl (by kernel_rfl) (f7.trans (cv_true _).symm) rfl (by cases t1B <;> rfl) (fun h => run_load1 (s := .pointer (some ⟨cb, 14, none⟩)) rfl (f8.trans (cv_of h)) (by have c : w0.cell? ⟨cb, 14, none⟩ = some (.slice oD nD cD) := X0.cell 14; go_simp)) ?_
  refine abs_list _ (fun a7 h7 => ?_)
  have z7 := sp h7 z6
  replace f1 := kp h7 (by decide) f1
  replace f7 := kp h7 (by decide) f7
  have f9 := nw h7 z6 (by decide)
  clear f8 z6
  replace h7 := Lib.hid h7
  refine list_if (u := .int .i64 (nD : Nat)) (b := t1B) (c := true) (c' := t1B) (dk := 7) rfl (by kernel_rfl) (f7.trans (cv_true _).symm) rfl (by cases t1B <;> rfl) (fun h => run_lens (s := .slice oD nD cD) rfl (f9.trans (cv_of h)) (fun cs => len_sl26 _ _ _ _ cs)) ?_
  refine abs_list _ (fun a8 h8 => ?_)
  have z8 := sp h8 z7
  replace f1 := kp h8 (by decide) f1
  replace f7 := kp h8 (by decide) f7
  have f10 := nw h8 z7 (by decide)
  clear f9 z7
  replace h8 := Lib.hid h8
  refine list_if (u := .bool t2B) (b := t1B) (c := true) (c' := t1B) (dk := 7) rfl (by kernel_rfl) (f7.trans (cv_true _).symm) rfl (by cases t1B <;> rfl) (fun h => run_ord (s := .int .i64 (nD : Nat)) (j := .int .i64 16) rfl (.inr (.inr (.inl rfl))) (f10.trans (cv_of h)) rfl ((leq_i3 _ _ _).trans (by rw [ht2B]))) ?_
  refine abs_list _ (fun a9 h9 => ?_)
  have z9 := sp h9 z8
  replace f1 := kp h9 (by decide) f1
  replace f7 := kp h9 (by decide) f7
  have f11 := nw h9 z8 (by decide)
  clear f10 z8
  replace h9 := Lib.hid h9
  obtain ⟨q1B, hq1B⟩ : ∃ q : Bool, (t1B && t2B) = q := ⟨_, rfl⟩
  refine list_val (u := .bool q1B) rfl rfl (run_pick (b := t1B) rfl f7 (by rw [f11, ← hq1B]; cases t1B <;> cases t2B <;> simp [cv, eval_const])) ?_
  refine abs_list _ (fun a10 h10 => ?_)
  have z10 := sp h10 z9
  replace f1 := kp h10 (by decide) f1
  have f12 := nw h10 z9 (by decide)
  clear f7 f11 z9
  replace h10 := Lib.hid h10
  refine list_val (u := .bool q1B) rfl rfl (run_assign rfl f12 _) ?_
  refine abs_list _ (fun a11 h11 => ?_)
  have z11 := sp h11 z10
  replace f1 := kp h11 (by decide) f1
  have f2 := nw h11 z10 (by decide)
  clear f12 z10
  replace h11 := Lib.hid h11
  refine wpList_nil ?_
  rw [h11.out, h10.out, h9.out, h8.out, h7.out, h6.out, h5.out, h4.out, h3.out, h2.out, h1.out, HB.out]
  simp only [Act.put, List.setIfInBounds_toArray, List.set_cons_zero, List.set_cons_succ]
  clear f1 f2 z11 HB hsz h1 h2 h3 h4 h5 h6 h7 h8 h9 h10 h11
  have HY := Lib.hid (show rb = q1B by
    rw [← HRB.out]
    unfold fewF
    rw [ht1B, ht2B]
    subst_vars
    rfl)
  go_wp2_with fail
  go_ret
  exact ⟨ret_bool HY.out.symm, bel0⟩
def stripC (k : Int) (X : Ck) : Ck := { X with tsn := if k = 0 ∨ k = 1 ∨ k = 3 ∨ k = 7 ∨ k = 16 then 0 else X.tsn, st := if k = 0 ∨ k = 15 then 0 else X.st, ss := if k = 0 ∨ k = 15 then 0 else X.ss, pr := if k = 0 then 0 else X.pr, d := if k = 0 ∨ k = 4 ∨ k = 10 ∨ k = 15 ∨ k = 20 then ⟨#[]⟩ else X.d, tg := if k = 1 then 0 else X.tg, rw := if k = 1 ∨ k = 3 then 0 else X.rw, ou := if k = 1 then 0 else X.ou, ii := if k = 1 then 0 else X.ii }
def bareV (t1B t2B t3B t4B t5B t6B t7B t8B t9B t10B : Bool) : Bool := (((((((((t1B && t2B) && t3B) && t4B) && t5B) && t6B) && t7B) && t8B) && t9B) && t10B)
def bareZ (Z : Ck) (pN kN gN dN : Nat) : Bool := bareV (((Z.tsn : Int) == (0 : Int))) (((Z.st : Int) == (0 : Int))) (((Z.ss : Int) == (0 : Int))) (((Z.pr : Int) == (0 : Int))) (((Z.tg : Int) == (0 : Int))) (((Z.rw : Int) == (0 : Int))) (((Z.ou : Int) == (0 : Int))) (((Z.ii : Int) == (0 : Int))) ((Z.d.toList == (⟨#[]⟩ : ByteArray).toList)) (((((pN + kN + gN + dN : Nat) : Nat) : Int) == (0 : Int)))
def bareF (X : Ck) (nP nK nG nD : Nat) (k : Int) : Bool := bareZ (stripC k X) (if k = 1 ∨ k = 16 then 0 else nP) (if k = 6 then 0 else nK) (if k = 3 then 0 else nG) (if k = 3 then 0 else nD)
theorem kinds (n : Int) : kindV n = 0 ∨ kindV n = 1 ∨ kindV n = 3 ∨ kindV n = 4 ∨ kindV n = 6 ∨ kindV n = 7 ∨ kindV n = 8 ∨ kindV n = 10 ∨ kindV n = 15 ∨ kindV n = 16 ∨ kindV n = 20 := by
  unfold kindV
  (repeat' split) <;> omega
set_option maxHeartbeats 2000000 in
theorem bare_has (X : Ck) (nP nK nG nD : Nat) (n : Int) : bareF X nP nK nG nD (kindV n) = !(hasF X nP nK nG nD (kindV n)) := by
  rw [Bool.eq_iff_iff]
  rcases kinds n with h | h | h | h | h | h | h | h | h | h | h <;> rw [h] <;> unfold bareF bareZ bareV hasF hasV stripC <;> simp <;> by_cases hd : X.d.toList = [] <;> (try simp [hd]) <;> omega
set_option maxHeartbeats 8000000 in
theorem bare_any (X : Ck) (oP oK oG oD : Option Addr) (nP cP nK cK nG cG nD cD : Nat) (hN : nP ≤ 20 ∧ nK ≤ 20 ∧ nG ≤ 20 ∧ nD ≤ 20) (w : World) : Calls Tryd.prog 46 #[.agg (ckc X (.slice oP nP cP) (.slice oK nK cK) (.slice oG nG cG) (.slice oD nD cD))] w fun e w' => e = .returned (.bool (bareF X nP nK nG nD (kindV X.ty))) ∧ Below w.heap.size w w' := by
  obtain ⟨rb, hrb⟩ : ∃ rb, bareF X nP nK nG nD (kindV X.ty) = rb := ⟨_, rfl⟩
  rw [hrb]
  have HRB := Lib.hid hrb
  clear hrb
  have X0 := Blk.new w 33 (ckc X (.slice oP nP cP) (.slice oK nK cK) (.slice oG nG cG) (.slice oD nD cD))
  have bel0 := (Below.refl w.heap.size w).alloc (Nat.le_refl _) (.cells (ckc X (.slice oP nP cP) (.slice oK nK cK) (.slice oG nG cG) (.slice oD nD cD)) 33)
  unfold ckc at X0 bel0 ⊢
  go_enter Tryd.func46, Tryd.ntmps46
  go_upto_region 1 with fail
  obtain ⟨w0, hw0⟩ : ∃ w0, w.alloc (.cells #[.int .i64 X.ty, .int .i64 X.fl, .int .u32 X.tsn, .int .i64 X.st, .int .i64 X.ss, .int .u32 X.pr, .string X.d, .int .u32 X.tg, .int .u32 X.rw, .int .i64 X.ou, .int .i64 X.ii, .slice oP nP cP, .slice oK nK cK, .slice oG nG cG, .slice oD nD cD] 33) = w0 := ⟨_, rfl⟩
  rw [hw0] at X0 bel0
  try rw [hw0]
  clear hw0
  obtain ⟨cb, hcb⟩ : ∃ cb, w.heap.size = cb := ⟨_, rfl⟩
  have hcl := X0.lt
  rw [hcb] at X0 hcl
  try rw [hcb]
  have x0 : w0.cell? ⟨cb, 0, none⟩ = some (.int .i64 X.ty) := X0.cell 0
  go_upto_block 0 with fail
  go_cut [] from 7 to 50 (fun wx => ∃ (Z : Ck) (pO : Option Addr) (pN pC : Nat) (kO : Option Addr) (kN kC : Nat) (gO : Option Addr) (gN gC : Nat) (dO : Option Addr) (dN dC : Nat), Blk wx cb 33 (ckc Z (.slice pO pN pC) (.slice kO kN kC) (.slice gO gN gC) (.slice dO dN dC)) ∧ Z = stripC (kindV X.ty) X ∧ pN = (if kindV X.ty = 1 ∨ kindV X.ty = 16 then 0 else nP) ∧ kN = (if kindV X.ty = 6 then 0 else nK) ∧ gN = (if kindV X.ty = 3 then 0 else nG) ∧ dN = (if kindV X.ty = 3 then 0 else nD) ∧ Below w.heap.size w wx)
  case first =>
    by_cases t0 : X.ty = 0
    · have e0 : (X.ty == 0) = true := beq_iff_eq.2 t0
      have HT := Lib.hid (show kindV X.ty = 0 by rw [t0]; rfl)
      clear x0 t0
      have C := fun i => X0.cell i
      have F := fun i => X0.frozen i
      go_wp2_with fail
      go_meet
      have t := HT.out
      exact ⟨⟨X.ty, X.fl, 0, 0, 0, 0, ⟨#[]⟩, X.tg, X.rw, X.ou, X.ii, X.P, X.K, X.G, X.D⟩, oP, nP, cP, oK, nK, cK, oG, nG, cG, oD, nD, cD, (((((X0.set_ 2 (.int .u32 0)).set_ 3 (.int .i64 0)).set_ 4 (.int .i64 0)).set_ 5 (.int .u32 0)).set_ 6 (.string ⟨#[]⟩)), (by rw [t]; rfl), (by rw [t]; rfl), (by rw [t]; rfl), (by rw [t]; rfl), (by rw [t]; rfl), (((((bel0.setCell (Nat.le_of_eq hcb) (.int .u32 0)).setCell (Nat.le_of_eq hcb) (.int .i64 0)).setCell (Nat.le_of_eq hcb) (.int .i64 0)).setCell (Nat.le_of_eq hcb) (.int .u32 0)).setCell (Nat.le_of_eq hcb) (.string ⟨#[]⟩))⟩
    have e0 : (X.ty == 0) = false := beq_eq_false_iff_ne.2 t0
    by_cases t1 : X.ty = 1
    · have e1 : (X.ty == 1) = true := beq_iff_eq.2 t1
      have HT := Lib.hid (show kindV X.ty = 1 by rw [t1]; rfl)
      clear x0 t0 t1
      have C := fun i => X0.cell i
      have F := fun i => X0.frozen i
      go_wp2_with fail
      go_meet
      have t := HT.out
      exact ⟨⟨X.ty, X.fl, 0, X.st, X.ss, X.pr, X.d, 0, 0, 0, 0, X.P, X.K, X.G, X.D⟩, none, 0, 0, oK, nK, cK, oG, nG, cG, oD, nD, cD, ((((((X0.set_ 7 (.int .u32 0)).set_ 8 (.int .u32 0)).set_ 9 (.int .i64 0)).set_ 10 (.int .i64 0)).set_ 2 (.int .u32 0)).set_ 11 (.slice none 0 0)), (by rw [t]; rfl), (by rw [t]; rfl), (by rw [t]; rfl), (by rw [t]; rfl), (by rw [t]; rfl), ((((((bel0.setCell (Nat.le_of_eq hcb) (.int .u32 0)).setCell (Nat.le_of_eq hcb) (.int .u32 0)).setCell (Nat.le_of_eq hcb) (.int .i64 0)).setCell (Nat.le_of_eq hcb) (.int .i64 0)).setCell (Nat.le_of_eq hcb) (.int .u32 0)).setCell (Nat.le_of_eq hcb) (.slice none 0 0))⟩
    have e1 : (X.ty == 1) = false := beq_eq_false_iff_ne.2 t1
    by_cases t2 : X.ty = 2
    · have e2 : (X.ty == 2) = true := beq_iff_eq.2 t2
      have HT := Lib.hid (show kindV X.ty = 1 by rw [t2]; rfl)
      clear x0 t0 t1 t2
      have C := fun i => X0.cell i
      have F := fun i => X0.frozen i
      go_wp2_with fail
      go_meet
      have t := HT.out
      exact ⟨⟨X.ty, X.fl, 0, X.st, X.ss, X.pr, X.d, 0, 0, 0, 0, X.P, X.K, X.G, X.D⟩, none, 0, 0, oK, nK, cK, oG, nG, cG, oD, nD, cD, ((((((X0.set_ 7 (.int .u32 0)).set_ 8 (.int .u32 0)).set_ 9 (.int .i64 0)).set_ 10 (.int .i64 0)).set_ 2 (.int .u32 0)).set_ 11 (.slice none 0 0)), (by rw [t]; rfl), (by rw [t]; rfl), (by rw [t]; rfl), (by rw [t]; rfl), (by rw [t]; rfl), ((((((bel0.setCell (Nat.le_of_eq hcb) (.int .u32 0)).setCell (Nat.le_of_eq hcb) (.int .u32 0)).setCell (Nat.le_of_eq hcb) (.int .i64 0)).setCell (Nat.le_of_eq hcb) (.int .i64 0)).setCell (Nat.le_of_eq hcb) (.int .u32 0)).setCell (Nat.le_of_eq hcb) (.slice none 0 0))⟩
    have e2 : (X.ty == 2) = false := beq_eq_false_iff_ne.2 t2
    by_cases t3 : X.ty = 3
    · have e3 : (X.ty == 3) = true := beq_iff_eq.2 t3
      have HT := Lib.hid (show kindV X.ty = 3 by rw [t3]; rfl)
      clear x0 t0 t1 t2 t3
      have C := fun i => X0.cell i
      have F := fun i => X0.frozen i
      go_wp2_with fail
      go_meet
      have t := HT.out
      exact ⟨⟨X.ty, X.fl, 0, X.st, X.ss, X.pr, X.d, X.tg, 0, X.ou, X.ii, X.P, X.K, X.G, X.D⟩, oP, nP, cP, oK, nK, cK, none, 0, 0, none, 0, 0, ((((X0.set_ 2 (.int .u32 0)).set_ 8 (.int .u32 0)).set_ 13 (.slice none 0 0)).set_ 14 (.slice none 0 0)), (by rw [t]; rfl), (by rw [t]; rfl), (by rw [t]; rfl), (by rw [t]; rfl), (by rw [t]; rfl), ((((bel0.setCell (Nat.le_of_eq hcb) (.int .u32 0)).setCell (Nat.le_of_eq hcb) (.int .u32 0)).setCell (Nat.le_of_eq hcb) (.slice none 0 0)).setCell (Nat.le_of_eq hcb) (.slice none 0 0))⟩
    have e3 : (X.ty == 3) = false := beq_eq_false_iff_ne.2 t3
    by_cases t6 : X.ty = 6
    · have e6 : (X.ty == 6) = true := beq_iff_eq.2 t6
      have HT := Lib.hid (show kindV X.ty = 6 by rw [t6]; rfl)
      clear x0 t0 t1 t2 t3 t6
      have C := fun i => X0.cell i
      have F := fun i => X0.frozen i
      go_wp2_with fail
      go_meet
      have t := HT.out
      exact ⟨⟨X.ty, X.fl, X.tsn, X.st, X.ss, X.pr, X.d, X.tg, X.rw, X.ou, X.ii, X.P, X.K, X.G, X.D⟩, oP, nP, cP, none, 0, 0, oG, nG, cG, oD, nD, cD, (X0.set_ 12 (.slice none 0 0)), (by rw [t]; rfl), (by rw [t]; rfl), (by rw [t]; rfl), (by rw [t]; rfl), (by rw [t]; rfl), (bel0.setCell (Nat.le_of_eq hcb) (.slice none 0 0))⟩
    have e6 : (X.ty == 6) = false := beq_eq_false_iff_ne.2 t6
    by_cases t9 : X.ty = 9
    · have e9 : (X.ty == 9) = true := beq_iff_eq.2 t9
      have HT := Lib.hid (show kindV X.ty = 6 by rw [t9]; rfl)
      clear x0 t0 t1 t2 t3 t6 t9
      have C := fun i => X0.cell i
      have F := fun i => X0.frozen i
      go_wp2_with fail
      go_meet
      have t := HT.out
      exact ⟨⟨X.ty, X.fl, X.tsn, X.st, X.ss, X.pr, X.d, X.tg, X.rw, X.ou, X.ii, X.P, X.K, X.G, X.D⟩, oP, nP, cP, none, 0, 0, oG, nG, cG, oD, nD, cD, (X0.set_ 12 (.slice none 0 0)), (by rw [t]; rfl), (by rw [t]; rfl), (by rw [t]; rfl), (by rw [t]; rfl), (by rw [t]; rfl), (bel0.setCell (Nat.le_of_eq hcb) (.slice none 0 0))⟩
    have e9 : (X.ty == 9) = false := beq_eq_false_iff_ne.2 t9
    by_cases t7 : X.ty = 7
    · have e7 : (X.ty == 7) = true := beq_iff_eq.2 t7
      have HT := Lib.hid (show kindV X.ty = 7 by rw [t7]; rfl)
      clear x0 t0 t1 t2 t3 t6 t9 t7
      have C := fun i => X0.cell i
      have F := fun i => X0.frozen i
      go_wp2_with fail
      go_meet
      have t := HT.out
      exact ⟨⟨X.ty, X.fl, 0, X.st, X.ss, X.pr, X.d, X.tg, X.rw, X.ou, X.ii, X.P, X.K, X.G, X.D⟩, oP, nP, cP, oK, nK, cK, oG, nG, cG, oD, nD, cD, (X0.set_ 2 (.int .u32 0)), (by rw [t]; rfl), (by rw [t]; rfl), (by rw [t]; rfl), (by rw [t]; rfl), (by rw [t]; rfl), (bel0.setCell (Nat.le_of_eq hcb) (.int .u32 0))⟩
    have e7 : (X.ty == 7) = false := beq_eq_false_iff_ne.2 t7
    by_cases t8 : X.ty = 8
    · have e8 : (X.ty == 8) = true := beq_iff_eq.2 t8
      have HT := Lib.hid (show kindV X.ty = 8 by rw [t8]; rfl)
      clear x0 t0 t1 t2 t3 t6 t9 t7 t8
      have C := fun i => X0.cell i
      have F := fun i => X0.frozen i
      go_wp2_with fail
      go_meet
      have t := HT.out
      exact ⟨⟨X.ty, X.fl, X.tsn, X.st, X.ss, X.pr, X.d, X.tg, X.rw, X.ou, X.ii, X.P, X.K, X.G, X.D⟩, oP, nP, cP, oK, nK, cK, oG, nG, cG, oD, nD, cD, X0, (by rw [t]; rfl), (by rw [t]; rfl), (by rw [t]; rfl), (by rw [t]; rfl), (by rw [t]; rfl), bel0⟩
    have e8 : (X.ty == 8) = false := beq_eq_false_iff_ne.2 t8
    by_cases t11 : X.ty = 11
    · have e11 : (X.ty == 11) = true := beq_iff_eq.2 t11
      have HT := Lib.hid (show kindV X.ty = 8 by rw [t11]; rfl)
      clear x0 t0 t1 t2 t3 t6 t9 t7 t8 t11
      have C := fun i => X0.cell i
      have F := fun i => X0.frozen i
      go_wp2_with fail
      go_meet
      have t := HT.out
      exact ⟨⟨X.ty, X.fl, X.tsn, X.st, X.ss, X.pr, X.d, X.tg, X.rw, X.ou, X.ii, X.P, X.K, X.G, X.D⟩, oP, nP, cP, oK, nK, cK, oG, nG, cG, oD, nD, cD, X0, (by rw [t]; rfl), (by rw [t]; rfl), (by rw [t]; rfl), (by rw [t]; rfl), (by rw [t]; rfl), bel0⟩
    have e11 : (X.ty == 11) = false := beq_eq_false_iff_ne.2 t11
    by_cases t14 : X.ty = 14
    · have e14 : (X.ty == 14) = true := beq_iff_eq.2 t14
      have HT := Lib.hid (show kindV X.ty = 8 by rw [t14]; rfl)
      clear x0 t0 t1 t2 t3 t6 t9 t7 t8 t11 t14
      have C := fun i => X0.cell i
      have F := fun i => X0.frozen i
      go_wp2_with fail
      go_meet
      have t := HT.out
      exact ⟨⟨X.ty, X.fl, X.tsn, X.st, X.ss, X.pr, X.d, X.tg, X.rw, X.ou, X.ii, X.P, X.K, X.G, X.D⟩, oP, nP, cP, oK, nK, cK, oG, nG, cG, oD, nD, cD, X0, (by rw [t]; rfl), (by rw [t]; rfl), (by rw [t]; rfl), (by rw [t]; rfl), (by rw [t]; rfl), bel0⟩
    have e14 : (X.ty == 14) = false := beq_eq_false_iff_ne.2 t14
    by_cases t15 : X.ty = 15
    · have e15 : (X.ty == 15) = true := beq_iff_eq.2 t15
      have HT := Lib.hid (show kindV X.ty = 15 by rw [t15]; rfl)
      clear x0 t0 t1 t2 t3 t6 t9 t7 t8 t11 t14 t15
      have C := fun i => X0.cell i
      have F := fun i => X0.frozen i
      go_wp2_with fail
      go_meet
      have t := HT.out
      exact ⟨⟨X.ty, X.fl, X.tsn, 0, 0, X.pr, ⟨#[]⟩, X.tg, X.rw, X.ou, X.ii, X.P, X.K, X.G, X.D⟩, oP, nP, cP, oK, nK, cK, oG, nG, cG, oD, nD, cD, (((X0.set_ 3 (.int .i64 0)).set_ 4 (.int .i64 0)).set_ 6 (.string ⟨#[]⟩)), (by rw [t]; rfl), (by rw [t]; rfl), (by rw [t]; rfl), (by rw [t]; rfl), (by rw [t]; rfl), (((bel0.setCell (Nat.le_of_eq hcb) (.int .i64 0)).setCell (Nat.le_of_eq hcb) (.int .i64 0)).setCell (Nat.le_of_eq hcb) (.string ⟨#[]⟩))⟩
    have e15 : (X.ty == 15) = false := beq_eq_false_iff_ne.2 t15
    by_cases t193 : X.ty = 193
    · have e193 : (X.ty == 193) = true := beq_iff_eq.2 t193
      have HT := Lib.hid (show kindV X.ty = 16 by rw [t193]; rfl)
      clear x0 t0 t1 t2 t3 t6 t9 t7 t8 t11 t14 t15 t193
      have C := fun i => X0.cell i
      have F := fun i => X0.frozen i
      go_wp2_with fail
      go_meet
      have t := HT.out
      exact ⟨⟨X.ty, X.fl, 0, X.st, X.ss, X.pr, X.d, X.tg, X.rw, X.ou, X.ii, X.P, X.K, X.G, X.D⟩, none, 0, 0, oK, nK, cK, oG, nG, cG, oD, nD, cD, ((X0.set_ 2 (.int .u32 0)).set_ 11 (.slice none 0 0)), (by rw [t]; rfl), (by rw [t]; rfl), (by rw [t]; rfl), (by rw [t]; rfl), (by rw [t]; rfl), ((bel0.setCell (Nat.le_of_eq hcb) (.int .u32 0)).setCell (Nat.le_of_eq hcb) (.slice none 0 0))⟩
    have e193 : (X.ty == 193) = false := beq_eq_false_iff_ne.2 t193
    by_cases t128 : X.ty = 128
    · have e128 : (X.ty == 128) = true := beq_iff_eq.2 t128
      have HT := Lib.hid (show kindV X.ty = 16 by rw [t128]; rfl)
      clear x0 t0 t1 t2 t3 t6 t9 t7 t8 t11 t14 t15 t193 t128
      have C := fun i => X0.cell i
      have F := fun i => X0.frozen i
      go_wp2_with fail
      go_meet
      have t := HT.out
      exact ⟨⟨X.ty, X.fl, 0, X.st, X.ss, X.pr, X.d, X.tg, X.rw, X.ou, X.ii, X.P, X.K, X.G, X.D⟩, none, 0, 0, oK, nK, cK, oG, nG, cG, oD, nD, cD, ((X0.set_ 2 (.int .u32 0)).set_ 11 (.slice none 0 0)), (by rw [t]; rfl), (by rw [t]; rfl), (by rw [t]; rfl), (by rw [t]; rfl), (by rw [t]; rfl), ((bel0.setCell (Nat.le_of_eq hcb) (.int .u32 0)).setCell (Nat.le_of_eq hcb) (.slice none 0 0))⟩
    have e128 : (X.ty == 128) = false := beq_eq_false_iff_ne.2 t128
    by_cases t130 : X.ty = 130
    · have e130 : (X.ty == 130) = true := beq_iff_eq.2 t130
      have HT := Lib.hid (show kindV X.ty = 16 by rw [t130]; rfl)
      clear x0 t0 t1 t2 t3 t6 t9 t7 t8 t11 t14 t15 t193 t128 t130
      have C := fun i => X0.cell i
      have F := fun i => X0.frozen i
      go_wp2_with fail
      go_meet
      have t := HT.out
      exact ⟨⟨X.ty, X.fl, 0, X.st, X.ss, X.pr, X.d, X.tg, X.rw, X.ou, X.ii, X.P, X.K, X.G, X.D⟩, none, 0, 0, oK, nK, cK, oG, nG, cG, oD, nD, cD, ((X0.set_ 2 (.int .u32 0)).set_ 11 (.slice none 0 0)), (by rw [t]; rfl), (by rw [t]; rfl), (by rw [t]; rfl), (by rw [t]; rfl), (by rw [t]; rfl), ((bel0.setCell (Nat.le_of_eq hcb) (.int .u32 0)).setCell (Nat.le_of_eq hcb) (.slice none 0 0))⟩
    have e130 : (X.ty == 130) = false := beq_eq_false_iff_ne.2 t130
    have HK := Lib.hid (show kindV X.ty = 4 ∨ kindV X.ty = 10 ∨ kindV X.ty = 20 by
      unfold kindV
      (repeat' split) <;> omega)
    clear t0 t1 t2 t3 t6 t9 t7 t8 t11 t14 t15 t193 t128 t130
    have C := fun i => X0.cell i
    have F := fun i => X0.frozen i
    go_wp2_with fail
    go_meet
    have hk := HK.out
    refine ⟨⟨X.ty, X.fl, X.tsn, X.st, X.ss, X.pr, ⟨#[]⟩, X.tg, X.rw, X.ou, X.ii, X.P, X.K, X.G, X.D⟩, oP, nP, cP, oK, nK, cK, oG, nG, cG, oD, nD, cD, (X0.set_ 6 (.string ⟨#[]⟩)), ?_, ?_, ?_, ?_, ?_, (bel0.setCell (Nat.le_of_eq hcb) (.string ⟨#[]⟩))⟩
    · rcases hk with h | h | h <;> rw [h] <;> rfl
    · rcases hk with h | h | h <;> rw [h] <;> rfl
    · rcases hk with h | h | h <;> rw [h] <;> rfl
    · rcases hk with h | h | h <;> rw [h] <;> rfl
    · rcases hk with h | h | h <;> rw [h] <;> rfl

  case rest =>
  clear X0 bel0 x0 hcl
  obtain ⟨Z, pO, pN, pC, kO, kN, kC, gO, gN, gC, dO, dN, dC, XZ, hZ, hpN, hkN, hgN, hdN, belz⟩ := hcut
  rename World => wz
  have hpn : pN ≤ 20 := by rw [hpN]; split <;> omega
  have hkn : kN ≤ 20 := by rw [hkN]; split <;> omega
  have hgn : gN ≤ 20 := by rw [hgN]; split <;> omega
  have hdn : dN ≤ 20 := by rw [hdN]; split <;> omega
  have HR2 := Lib.hid (show bareZ Z pN kN gN dN = rb by rw [← HRB.out, hZ, hpN, hkN, hgN, hdN]; rfl)
  clear hZ hpN hkN hgN hdN HRB hN
  unfold ckc at XZ
  obtain ⟨t1B, ht1B⟩ : ∃ b : Bool, ((Z.tsn : Int) == (0 : Int)) = b := ⟨_, rfl⟩
  obtain ⟨t2B, ht2B⟩ : ∃ b : Bool, ((Z.st : Int) == (0 : Int)) = b := ⟨_, rfl⟩
  obtain ⟨t3B, ht3B⟩ : ∃ b : Bool, ((Z.ss : Int) == (0 : Int)) = b := ⟨_, rfl⟩
  obtain ⟨t4B, ht4B⟩ : ∃ b : Bool, ((Z.pr : Int) == (0 : Int)) = b := ⟨_, rfl⟩
  obtain ⟨t5B, ht5B⟩ : ∃ b : Bool, ((Z.tg : Int) == (0 : Int)) = b := ⟨_, rfl⟩
  obtain ⟨t6B, ht6B⟩ : ∃ b : Bool, ((Z.rw : Int) == (0 : Int)) = b := ⟨_, rfl⟩
  obtain ⟨t7B, ht7B⟩ : ∃ b : Bool, ((Z.ou : Int) == (0 : Int)) = b := ⟨_, rfl⟩
  obtain ⟨t8B, ht8B⟩ : ∃ b : Bool, ((Z.ii : Int) == (0 : Int)) = b := ⟨_, rfl⟩
  obtain ⟨t9B, ht9B⟩ : ∃ b : Bool, (Z.d.toList == (⟨#[]⟩ : ByteArray).toList) = b := ⟨_, rfl⟩
  obtain ⟨t10B, ht10B⟩ : ∃ b : Bool, ((((pN + kN + gN + dN : Nat) : Nat) : Int) == (0 : Int)) = b := ⟨_, rfl⟩
  go_upto_region 24 with fail
  refine wp_region_lit ?_
  refine abs_list _ (fun ac hac => ?_)
  have hsz : ac.tmps.size = 113 := by rw [hac]; rfl
  have f1 : ac.eval (.tmp 1) = .pointer (some ⟨cb, 0, none⟩) := by rw [hac]; rfl
  have HB := Lib.hid hac
  clear hac
  refine list_val (u := .pointer (some ⟨cb, 2, none⟩)) rfl rfl (run_field (s := .pointer (some ⟨cb, 0, none⟩)) rfl f1 (by kernel_rfl)) ?_
  refine abs_list _ (fun a1 h1 => ?_)
  have z1 := sp h1 hsz
  replace f1 := kp h1 (by decide) f1
  have f51 := nw h1 hsz (by decide)
  replace h1 := Lib.hid h1
  refine list_val (u := .int .u32 Z.tsn) rfl rfl (run_load1 (s := .pointer (some ⟨cb, 2, none⟩)) rfl f51 (by have c : wz.cell? ⟨cb, 2, none⟩ = some (.int .u32 Z.tsn) := XZ.cell 2; go_simp)) ?_
  refine abs_list _ (fun a2 h2 => ?_)
  have z2 := sp h2 z1
  replace f1 := kp h2 (by decide) f1
  have f52 := nw h2 z1 (by decide)
  clear f51 z1
  replace h2 := Lib.hid h2
  refine list_val (u := .bool t1B) rfl rfl (run_cmp_int (k := .u32) (p := Z.tsn) (q := 0) rfl (.inr rfl) f52 rfl ((eql_i22 _ _ _).trans (by rw [ht1B]))) ?_
  refine abs_list _ (fun a3 h3 => ?_)
  have z3 := sp h3 z2
  replace f1 := kp h3 (by decide) f1
  have f53 := nw h3 z2 (by decide)
  clear f52 z2
  replace h3 := Lib.hid h3
  refine list_val (u := .bool t1B) rfl rfl (run_move rfl f53 _) ?_
  refine abs_list _ (fun a4 h4 => ?_)
  have z4 := sp h4 z3
  replace f1 := kp h4 (by decide) f1
  have f54 := nw h4 z3 (by decide)
  clear f53 z3
  replace h4 := Lib.hid h4
  refine list_if (u := .pointer (some ⟨cb, 3, none⟩)) (b := t1B) (c := true) (c' := t1B) (dk := 54) rfl (by kernel_rfl) (f54.trans (cv_true _).symm) rfl (by cases t1B <;> rfl) (fun h => run_field (s := .pointer (some ⟨cb, 0, none⟩)) rfl f1 (by kernel_rfl)) ?_
  refine abs_list _ (fun a5 h5 => ?_)
  have z5 := sp h5 z4
  replace f1 := kp h5 (by decide) f1
  replace f54 := kp h5 (by decide) f54
  have f55 := nw h5 z4 (by decide)
  clear z4
  replace h5 := Lib.hid h5
  refine list_if (u := .int .i64 Z.st) (b := t1B) (c := true) (c' := t1B) (dk := 54) rfl (by kernel_rfl) (f54.trans (cv_true _).symm) rfl (by cases t1B <;> rfl) (fun h => run_load1 (s := .pointer (some ⟨cb, 3, none⟩)) rfl (f55.trans (cv_of h)) (by have c : wz.cell? ⟨cb, 3, none⟩ = some (.int .i64 Z.st) := XZ.cell 3; go_simp)) ?_
  refine abs_list _ (fun a6 h6 => ?_)
  have z6 := sp h6 z5
  replace f1 := kp h6 (by decide) f1
  replace f54 := kp h6 (by decide) f54
  have f56 := nw h6 z5 (by decide)
  clear f55 z5
  replace h6 := Lib.hid h6
  refine list_if (u := .bool t2B) (b := t1B) (c := true) (c' := t1B) (dk := 54) rfl (by kernel_rfl) (f54.trans (cv_true _).symm) rfl (by cases t1B <;> rfl) (fun h => run_cmp_int (k := .i64) (p := Z.st) (q := 0) rfl (.inr rfl) (f56.trans (cv_of h)) rfl ((eql_i3 _ _ _).trans (by rw [ht2B]))) ?_
  refine abs_list _ (fun a7 h7 => ?_)
  have z7 := sp h7 z6
  replace f1 := kp h7 (by decide) f1
  replace f54 := kp h7 (by decide) f54
  have f57 := nw h7 z6 (by decide)
  clear f56 z6
  replace h7 := Lib.hid h7
  obtain ⟨q1B, hq1B⟩ : ∃ q : Bool, (t1B && t2B) = q := ⟨_, rfl⟩
  refine list_val (u := .bool q1B) rfl rfl (run_pick (b := t1B) rfl f54 (by rw [f57, ← hq1B]; cases t1B <;> cases t2B <;> simp [cv, eval_const])) ?_
  refine abs_list _ (fun a8 h8 => ?_)
  have z8 := sp h8 z7
  replace f1 := kp h8 (by decide) f1
  have f58 := nw h8 z7 (by decide)
  clear f54 f57 z7
  replace h8 := Lib.hid h8
  refine list_val (u := .bool q1B) rfl rfl (run_move rfl f58 _) ?_
  refine abs_list _ (fun a9 h9 => ?_)
  have z9 := sp h9 z8
  replace f1 := kp h9 (by decide) f1
  have f59 := nw h9 z8 (by decide)
  clear f58 z8
  replace h9 := Lib.hid h9
  refine list_if (u := .pointer (some ⟨cb, 4, none⟩)) (b := q1B) (c := true) (c' := q1B) (dk := 59) rfl (by kernel_rfl) (f59.trans (cv_true _).symm) rfl (by cases q1B <;> rfl) (fun h => run_field (s := .pointer (some ⟨cb, 0, none⟩)) rfl f1 (by kernel_rfl)) ?_
  refine abs_list _ (fun a10 h10 => ?_)
  have z10 := sp h10 z9
  replace f1 := kp h10 (by decide) f1
  replace f59 := kp h10 (by decide) f59
  have f60 := nw h10 z9 (by decide)
  clear z9
  replace h10 := Lib.hid h10
  refine list_if (u := .int .i64 Z.ss) (b := q1B) (c := true) (c' := q1B) (dk := 59) rfl (by kernel_rfl) (f59.trans (cv_true _).symm) rfl (by cases q1B <;> rfl) (fun h => run_load1 (s := .pointer (some ⟨cb, 4, none⟩)) rfl (f60.trans (cv_of h)) (by have c : wz.cell? ⟨cb, 4, none⟩ = some (.int .i64 Z.ss) := XZ.cell 4; go_simp)) ?_
  refine abs_list _ (fun a11 h11 => ?_)
  have z11 := sp h11 z10
  replace f1 := kp h11 (by decide) f1
  replace f59 := kp h11 (by decide) f59
  have f61 := nw h11 z10 (by decide)
  clear f60 z10
  replace h11 := Lib.hid h11
  refine list_if (u := .bool t3B) (b := q1B) (c := true) (c' := q1B) (dk := 59) rfl (by kernel_rfl) (f59.trans (cv_true _).symm) rfl (by cases q1B <;> rfl) (fun h => run_cmp_int (k := .i64) (p := Z.ss) (q := 0) rfl (.inr rfl) (f61.trans (cv_of h)) rfl ((eql_i3 _ _ _).trans (by rw [ht3B]))) ?_
  refine abs_list _ (fun a12 h12 => ?_)
  have z12 := sp h12 z11
  replace f1 := kp h12 (by decide) f1
  replace f59 := kp h12 (by decide) f59
  have f62 := nw h12 z11 (by decide)
  clear f61 z11
  replace h12 := Lib.hid h12
  obtain ⟨q2B, hq2B⟩ : ∃ q : Bool, (q1B && t3B) = q := ⟨_, rfl⟩
  refine list_val (u := .bool q2B) rfl rfl (run_pick (b := q1B) rfl f59 (by rw [f62, ← hq2B]; cases q1B <;> cases t3B <;> simp [cv, eval_const])) ?_
  refine abs_list _ (fun a13 h13 => ?_)
  have z13 := sp h13 z12
  replace f1 := kp h13 (by decide) f1
  have f63 := nw h13 z12 (by decide)
  clear f59 f62 z12
  replace h13 := Lib.hid h13
  refine list_val (u := .bool q2B) rfl rfl (run_move rfl f63 _) ?_
  refine abs_list _ (fun a14 h14 => ?_)
  have z14 := sp h14 z13
  replace f1 := kp h14 (by decide) f1
  have f64 := nw h14 z13 (by decide)
  clear f63 z13
  replace h14 := Lib.hid h14
  refine list_if (u := .pointer (some ⟨cb, 5, none⟩)) (b := q2B) (c := true) (c' := q2B) (dk := 64) rfl (by kernel_rfl) (f64.trans (cv_true _).symm) rfl (by cases q2B <;> rfl) (fun h => run_field (s := .pointer (some ⟨cb, 0, none⟩)) rfl f1 (by kernel_rfl)) ?_
  refine abs_list _ (fun a15 h15 => ?_)
  have z15 := sp h15 z14
  replace f1 := kp h15 (by decide) f1
  replace f64 := kp h15 (by decide) f64
  have f65 := nw h15 z14 (by decide)
  clear z14
  replace h15 := Lib.hid h15
  refine list_if (u := .int .u32 Z.pr) (b := q2B) (c := true) (c' := q2B) (dk := 64) rfl (by kernel_rfl) (f64.trans (cv_true _).symm) rfl (by cases q2B <;> rfl) (fun h => run_load1 (s := .pointer (some ⟨cb, 5, none⟩)) rfl (f65.trans (cv_of h)) (by have c : wz.cell? ⟨cb, 5, none⟩ = some (.int .u32 Z.pr) := XZ.cell 5; go_simp)) ?_
  refine abs_list _ (fun a16 h16 => ?_)
  have z16 := sp h16 z15
  replace f1 := kp h16 (by decide) f1
  replace f64 := kp h16 (by decide) f64
  have f66 := nw h16 z15 (by decide)
  clear f65 z15
  replace h16 := Lib.hid h16
  refine list_if (u := .bool t4B) (b := q2B) (c := true) (c' := q2B) (dk := 64) rfl (by kernel_rfl) (f64.trans (cv_true _).symm) rfl (by cases q2B <;> rfl) (fun h => run_cmp_int (k := .u32) (p := Z.pr) (q := 0) rfl (.inr rfl) (f66.trans (cv_of h)) rfl ((eql_i22 _ _ _).trans (by rw [ht4B]))) ?_
  refine abs_list _ (fun a17 h17 => ?_)
  have z17 := sp h17 z16
  replace f1 := kp h17 (by decide) f1
  replace f64 := kp h17 (by decide) f64
  have f67 := nw h17 z16 (by decide)
  clear f66 z16
  replace h17 := Lib.hid h17
  obtain ⟨q3B, hq3B⟩ : ∃ q : Bool, (q2B && t4B) = q := ⟨_, rfl⟩
  refine list_val (u := .bool q3B) rfl rfl (run_pick (b := q2B) rfl f64 (by rw [f67, ← hq3B]; cases q2B <;> cases t4B <;> simp [cv, eval_const])) ?_
  refine abs_list _ (fun a18 h18 => ?_)
  have z18 := sp h18 z17
  replace f1 := kp h18 (by decide) f1
  have f68 := nw h18 z17 (by decide)
  clear f64 f67 z17
  replace h18 := Lib.hid h18
  refine list_val (u := .bool q3B) rfl rfl (run_move rfl f68 _) ?_
  refine abs_list _ (fun a19 h19 => ?_)
  have z19 := sp h19 z18
  replace f1 := kp h19 (by decide) f1
  have f69 := nw h19 z18 (by decide)
  clear f68 z18
  replace h19 := Lib.hid h19
  refine list_if (u := .pointer (some ⟨cb, 7, none⟩)) (b := q3B) (c := true) (c' := q3B) (dk := 69) rfl (by kernel_rfl) (f69.trans (cv_true _).symm) rfl (by cases q3B <;> rfl) (fun h => run_field (s := .pointer (some ⟨cb, 0, none⟩)) rfl f1 (by kernel_rfl)) ?_
  refine abs_list _ (fun a20 h20 => ?_)
  have z20 := sp h20 z19
  replace f1 := kp h20 (by decide) f1
  replace f69 := kp h20 (by decide) f69
  have f70 := nw h20 z19 (by decide)
  clear z19
  replace h20 := Lib.hid h20
  refine list_if (u := .int .u32 Z.tg) (b := q3B) (c := true) (c' := q3B) (dk := 69) rfl (by kernel_rfl) (f69.trans (cv_true _).symm) rfl (by cases q3B <;> rfl) (fun h => run_load1 (s := .pointer (some ⟨cb, 7, none⟩)) rfl (f70.trans (cv_of h)) (by have c : wz.cell? ⟨cb, 7, none⟩ = some (.int .u32 Z.tg) := XZ.cell 7; go_simp)) ?_
  refine abs_list _ (fun a21 h21 => ?_)
  have z21 := sp h21 z20
  replace f1 := kp h21 (by decide) f1
  replace f69 := kp h21 (by decide) f69
  have f71 := nw h21 z20 (by decide)
  clear f70 z20
  replace h21 := Lib.hid h21
  refine list_if (u := .bool t5B) (b := q3B) (c := true) (c' := q3B) (dk := 69) rfl (by kernel_rfl) (f69.trans (cv_true _).symm) rfl (by cases q3B <;> rfl) (fun h => run_cmp_int (k := .u32) (p := Z.tg) (q := 0) rfl (.inr rfl) (f71.trans (cv_of h)) rfl ((eql_i22 _ _ _).trans (by rw [ht5B]))) ?_
  refine abs_list _ (fun a22 h22 => ?_)
  have z22 := sp h22 z21
  replace f1 := kp h22 (by decide) f1
  replace f69 := kp h22 (by decide) f69
  have f72 := nw h22 z21 (by decide)
  clear f71 z21
  replace h22 := Lib.hid h22
  obtain ⟨q4B, hq4B⟩ : ∃ q : Bool, (q3B && t5B) = q := ⟨_, rfl⟩
  refine list_val (u := .bool q4B) rfl rfl (run_pick (b := q3B) rfl f69 (by rw [f72, ← hq4B]; cases q3B <;> cases t5B <;> simp [cv, eval_const])) ?_
  refine abs_list _ (fun a23 h23 => ?_)
  have z23 := sp h23 z22
  replace f1 := kp h23 (by decide) f1
  have f73 := nw h23 z22 (by decide)
  clear f69 f72 z22
  replace h23 := Lib.hid h23
  refine list_val (u := .bool q4B) rfl rfl (run_move rfl f73 _) ?_
  refine abs_list _ (fun a24 h24 => ?_)
  have z24 := sp h24 z23
  replace f1 := kp h24 (by decide) f1
  have f74 := nw h24 z23 (by decide)
  clear f73 z23
  replace h24 := Lib.hid h24
  refine list_if (u := .pointer (some ⟨cb, 8, none⟩)) (b := q4B) (c := true) (c' := q4B) (dk := 74) rfl (by kernel_rfl) (f74.trans (cv_true _).symm) rfl (by cases q4B <;> rfl) (fun h => run_field (s := .pointer (some ⟨cb, 0, none⟩)) rfl f1 (by kernel_rfl)) ?_
  refine abs_list _ (fun a25 h25 => ?_)
  have z25 := sp h25 z24
  replace f1 := kp h25 (by decide) f1
  replace f74 := kp h25 (by decide) f74
  have f75 := nw h25 z24 (by decide)
  clear z24
  replace h25 := Lib.hid h25
  refine list_if (u := .int .u32 Z.rw) (b := q4B) (c := true) (c' := q4B) (dk := 74) rfl (by kernel_rfl) (f74.trans (cv_true _).symm) rfl (by cases q4B <;> rfl) (fun h => run_load1 (s := .pointer (some ⟨cb, 8, none⟩)) rfl (f75.trans (cv_of h)) (by have c : wz.cell? ⟨cb, 8, none⟩ = some (.int .u32 Z.rw) := XZ.cell 8; go_simp)) ?_
  refine abs_list _ (fun a26 h26 => ?_)
  have z26 := sp h26 z25
  replace f1 := kp h26 (by decide) f1
  replace f74 := kp h26 (by decide) f74
  have f76 := nw h26 z25 (by decide)
  clear f75 z25
  replace h26 := Lib.hid h26
  refine list_if (u := .bool t6B) (b := q4B) (c := true) (c' := q4B) (dk := 74) rfl (by kernel_rfl) (f74.trans (cv_true _).symm) rfl (by cases q4B <;> rfl) (fun h => run_cmp_int (k := .u32) (p := Z.rw) (q := 0) rfl (.inr rfl) (f76.trans (cv_of h)) rfl ((eql_i22 _ _ _).trans (by rw [ht6B]))) ?_
  refine abs_list _ (fun a27 h27 => ?_)
  have z27 := sp h27 z26
  replace f1 := kp h27 (by decide) f1
  replace f74 := kp h27 (by decide) f74
  have f77 := nw h27 z26 (by decide)
  clear f76 z26
  replace h27 := Lib.hid h27
  obtain ⟨q5B, hq5B⟩ : ∃ q : Bool, (q4B && t6B) = q := ⟨_, rfl⟩
  refine list_val (u := .bool q5B) rfl rfl (run_pick (b := q4B) rfl f74 (by rw [f77, ← hq5B]; cases q4B <;> cases t6B <;> simp [cv, eval_const])) ?_
  refine abs_list _ (fun a28 h28 => ?_)
  have z28 := sp h28 z27
  replace f1 := kp h28 (by decide) f1
  have f78 := nw h28 z27 (by decide)
  clear f74 f77 z27
  replace h28 := Lib.hid h28
  refine list_val (u := .bool q5B) rfl rfl (run_move rfl f78 _) ?_
  refine abs_list _ (fun a29 h29 => ?_)
  have z29 := sp h29 z28
  replace f1 := kp h29 (by decide) f1
  have f79 := nw h29 z28 (by decide)
  clear f78 z28
  replace h29 := Lib.hid h29
  refine list_if (u := .pointer (some ⟨cb, 9, none⟩)) (b := q5B) (c := true) (c' := q5B) (dk := 79) rfl (by kernel_rfl) (f79.trans (cv_true _).symm) rfl (by cases q5B <;> rfl) (fun h => run_field (s := .pointer (some ⟨cb, 0, none⟩)) rfl f1 (by kernel_rfl)) ?_
  refine abs_list _ (fun a30 h30 => ?_)
  have z30 := sp h30 z29
  replace f1 := kp h30 (by decide) f1
  replace f79 := kp h30 (by decide) f79
  have f80 := nw h30 z29 (by decide)
  clear z29
  replace h30 := Lib.hid h30
  refine list_if (u := .int .i64 Z.ou) (b := q5B) (c := true) (c' := q5B) (dk := 79) rfl (by kernel_rfl) (f79.trans (cv_true _).symm) rfl (by cases q5B <;> rfl) (fun h => run_load1 (s := .pointer (some ⟨cb, 9, none⟩)) rfl (f80.trans (cv_of h)) (by have c : wz.cell? ⟨cb, 9, none⟩ = some (.int .i64 Z.ou) := XZ.cell 9; go_simp)) ?_
  refine abs_list _ (fun a31 h31 => ?_)
  have z31 := sp h31 z30
  replace f1 := kp h31 (by decide) f1
  replace f79 := kp h31 (by decide) f79
  have f81 := nw h31 z30 (by decide)
  clear f80 z30
  replace h31 := Lib.hid h31
  refine list_if (u := .bool t7B) (b := q5B) (c := true) (c' := q5B) (dk := 79) rfl (by kernel_rfl) (f79.trans (cv_true _).symm) rfl (by cases q5B <;> rfl) (fun h => run_cmp_int (k := .i64) (p := Z.ou) (q := 0) rfl (.inr rfl) (f81.trans (cv_of h)) rfl ((eql_i3 _ _ _).trans (by rw [ht7B]))) ?_
  refine abs_list _ (fun a32 h32 => ?_)
  have z32 := sp h32 z31
  replace f1 := kp h32 (by decide) f1
  replace f79 := kp h32 (by decide) f79
  have f82 := nw h32 z31 (by decide)
  clear f81 z31
  replace h32 := Lib.hid h32
  obtain ⟨q6B, hq6B⟩ : ∃ q : Bool, (q5B && t7B) = q := ⟨_, rfl⟩
  refine list_val (u := .bool q6B) rfl rfl (run_pick (b := q5B) rfl f79 (by rw [f82, ← hq6B]; cases q5B <;> cases t7B <;> simp [cv, eval_const])) ?_
  refine abs_list _ (fun a33 h33 => ?_)
  have z33 := sp h33 z32
  replace f1 := kp h33 (by decide) f1
  have f83 := nw h33 z32 (by decide)
  clear f79 f82 z32
  replace h33 := Lib.hid h33
  refine list_val (u := .bool q6B) rfl rfl (run_move rfl f83 _) ?_
  refine abs_list _ (fun a34 h34 => ?_)
  have z34 := sp h34 z33
  replace f1 := kp h34 (by decide) f1
  have f84 := nw h34 z33 (by decide)
  clear f83 z33
  replace h34 := Lib.hid h34
  refine list_if (u := .pointer (some ⟨cb, 10, none⟩)) (b := q6B) (c := true) (c' := q6B) (dk := 84) rfl (by kernel_rfl) (f84.trans (cv_true _).symm) rfl (by cases q6B <;> rfl) (fun h => run_field (s := .pointer (some ⟨cb, 0, none⟩)) rfl f1 (by kernel_rfl)) ?_
  refine abs_list _ (fun a35 h35 => ?_)
  have z35 := sp h35 z34
  replace f1 := kp h35 (by decide) f1
  replace f84 := kp h35 (by decide) f84
  have f85 := nw h35 z34 (by decide)
  clear z34
  replace h35 := Lib.hid h35
  refine list_if (u := .int .i64 Z.ii) (b := q6B) (c := true) (c' := q6B) (dk := 84) rfl (by kernel_rfl) (f84.trans (cv_true _).symm) rfl (by cases q6B <;> rfl) (fun h => run_load1 (s := .pointer (some ⟨cb, 10, none⟩)) rfl (f85.trans (cv_of h)) (by have c : wz.cell? ⟨cb, 10, none⟩ = some (.int .i64 Z.ii) := XZ.cell 10; go_simp)) ?_
  refine abs_list _ (fun a36 h36 => ?_)
  have z36 := sp h36 z35
  replace f1 := kp h36 (by decide) f1
  replace f84 := kp h36 (by decide) f84
  have f86 := nw h36 z35 (by decide)
  clear f85 z35
  replace h36 := Lib.hid h36
  refine list_if (u := .bool t8B) (b := q6B) (c := true) (c' := q6B) (dk := 84) rfl (by kernel_rfl) (f84.trans (cv_true _).symm) rfl (by cases q6B <;> rfl) (fun h => run_cmp_int (k := .i64) (p := Z.ii) (q := 0) rfl (.inr rfl) (f86.trans (cv_of h)) rfl ((eql_i3 _ _ _).trans (by rw [ht8B]))) ?_
  refine abs_list _ (fun a37 h37 => ?_)
  have z37 := sp h37 z36
  replace f1 := kp h37 (by decide) f1
  replace f84 := kp h37 (by decide) f84
  have f87 := nw h37 z36 (by decide)
  clear f86 z36
  replace h37 := Lib.hid h37
  obtain ⟨q7B, hq7B⟩ : ∃ q : Bool, (q6B && t8B) = q := ⟨_, rfl⟩
  refine list_val (u := .bool q7B) rfl rfl (run_pick (b := q6B) rfl f84 (by rw [f87, ← hq7B]; cases q6B <;> cases t8B <;> simp [cv, eval_const])) ?_
  refine abs_list _ (fun a38 h38 => ?_)
  have z38 := sp h38 z37
  replace f1 := kp h38 (by decide) f1
  have f88 := nw h38 z37 (by decide)
  clear f84 f87 z37
  replace h38 := Lib.hid h38
  refine list_val (u := .bool q7B) rfl rfl (run_assign rfl f88 _) ?_
  refine abs_list _ (fun a39 h39 => ?_)
  have z39 := sp h39 z38
  replace f1 := kp h39 (by decide) f1
  have f3 := nw h39 z38 (by decide)
  clear f88 z38
  replace h39 := Lib.hid h39
  refine wpList_nil ?_
  rw [h39.out, h38.out, h37.out, h36.out, h35.out, h34.out, h33.out, h32.out, h31.out, h30.out, h29.out, h28.out, h27.out, h26.out, h25.out, h24.out, h23.out, h22.out, h21.out, h20.out, h19.out, h18.out, h17.out, h16.out, h15.out, h14.out, h13.out, h12.out, h11.out, h10.out, h9.out, h8.out, h7.out, h6.out, h5.out, h4.out, h3.out, h2.out, h1.out, HB.out]
  simp only [Act.put, List.setIfInBounds_toArray, List.set_cons_zero, List.set_cons_succ]
  clear f1 f3 z39 HB hsz h1 h2 h3 h4 h5 h6 h7 h8 h9 h10 h11 h12 h13 h14 h15 h16 h17 h18 h19 h20 h21 h22 h23 h24 h25 h26 h27 h28 h29 h30 h31 h32 h33 h34 h35 h36 h37 h38 h39
  go_upto_region 25 with fail
  refine wp_region_lit ?_
  refine abs_list _ (fun ac hac => ?_)
  have hsz : ac.tmps.size = 113 := by rw [hac]; rfl
  have f1 : ac.eval (.tmp 1) = .pointer (some ⟨cb, 0, none⟩) := by rw [hac]; rfl
  have f3 : ac.eval (.tmp 3) = .bool q7B := by rw [hac]; rfl
  have HB := Lib.hid hac
  clear hac
  refine list_val (u := .bool q7B) rfl rfl (run_move rfl f3 _) ?_
  refine abs_list _ (fun a1 h1 => ?_)
  have z1 := sp h1 hsz
  replace f1 := kp h1 (by decide) f1
  replace f3 := kp h1 (by decide) f3
  have f89 := nw h1 hsz (by decide)
  replace h1 := Lib.hid h1
  refine list_val (u := .bool q7B) rfl rfl (run_move rfl f89 _) ?_
  refine abs_list _ (fun a2 h2 => ?_)
  have z2 := sp h2 z1
  replace f1 := kp h2 (by decide) f1
  replace f3 := kp h2 (by decide) f3
  have f90 := nw h2 z1 (by decide)
  clear f89 z1
  replace h2 := Lib.hid h2
  refine list_if (u := .pointer (some ⟨cb, 6, none⟩)) (b := q7B) (c := true) (c' := q7B) (dk := 90) rfl (by kernel_rfl) (f90.trans (cv_true _).symm) rfl (by cases q7B <;> rfl) (fun h => run_field (s := .pointer (some ⟨cb, 0, none⟩)) rfl f1 (by kernel_rfl)) ?_
  refine abs_list _ (fun a3 h3 => ?_)
  have z3 := sp h3 z2
  replace f1 := kp h3 (by decide) f1
  replace f3 := kp h3 (by decide) f3
  replace f90 := kp h3 (by decide) f90
  have f91 := nw h3 z2 (by decide)
  clear z2
  replace h3 := Lib.hid h3
  refine list_if (u := .string Z.d) (b := q7B) (c := true) (c' := q7B) (dk := 90) rfl (by kernel_rfl) (f90.trans (cv_true _).symm) rfl (by cases q7B <;> rfl) (fun h => run_load1 (s := .pointer (some ⟨cb, 6, none⟩)) rfl (f91.trans (cv_of h)) (by have c : wz.cell? ⟨cb, 6, none⟩ = some (.string Z.d) := XZ.cell 6; go_simp)) ?_
  refine abs_list _ (fun a4 h4 => ?_)
  have z4 := sp h4 z3
  replace f1 := kp h4 (by decide) f1
  replace f3 := kp h4 (by decide) f3
  replace f90 := kp h4 (by decide) f90
  have f92 := nw h4 z3 (by decide)
  clear f91 z3
  replace h4 := Lib.hid h4
  refine list_if (u := .bool t9B) (b := q7B) (c := true) (c' := q7B) (dk := 90) rfl (by kernel_rfl) (f90.trans (cv_true _).symm) rfl (by cases q7B <;> rfl) (fun h => run_cmp_str (p := Z.d) (q := ⟨#[]⟩) rfl (.inr rfl) (f92.trans (cv_of h)) rfl ((eql_s _ _ _).trans (by rw [ht9B]))) ?_
  refine abs_list _ (fun a5 h5 => ?_)
  have z5 := sp h5 z4
  replace f1 := kp h5 (by decide) f1
  replace f3 := kp h5 (by decide) f3
  replace f90 := kp h5 (by decide) f90
  have f93 := nw h5 z4 (by decide)
  clear f92 z4
  replace h5 := Lib.hid h5
  obtain ⟨q101B, hq101B⟩ : ∃ q : Bool, (q7B && t9B) = q := ⟨_, rfl⟩
  refine list_val (u := .bool q101B) rfl rfl (run_pick (b := q7B) rfl f90 (by rw [f93, ← hq101B]; cases q7B <;> cases t9B <;> simp [cv, eval_const])) ?_
  refine abs_list _ (fun a6 h6 => ?_)
  have z6 := sp h6 z5
  replace f1 := kp h6 (by decide) f1
  replace f3 := kp h6 (by decide) f3
  have f94 := nw h6 z5 (by decide)
  clear f90 f93 z5
  replace h6 := Lib.hid h6
  refine list_val (u := .bool q101B) rfl rfl (run_move rfl f94 _) ?_
  refine abs_list _ (fun a7 h7 => ?_)
  have z7 := sp h7 z6
  replace f1 := kp h7 (by decide) f1
  replace f3 := kp h7 (by decide) f3
  have f95 := nw h7 z6 (by decide)
  clear f94 z6
  replace h7 := Lib.hid h7
  refine list_if (u := .pointer (some ⟨cb, 11, none⟩)) (b := q101B) (c := true) (c' := q101B) (dk := 95) rfl (by kernel_rfl) (f95.trans (cv_true _).symm) rfl (by cases q101B <;> rfl) (fun h => run_field (s := .pointer (some ⟨cb, 0, none⟩)) rfl f1 (by kernel_rfl)) ?_
  refine abs_list _ (fun a8 h8 => ?_)
  have z8 := sp h8 z7
  replace f1 := kp h8 (by decide) f1
  replace f3 := kp h8 (by decide) f3
  replace f95 := kp h8 (by decide) f95
  have f96 := nw h8 z7 (by decide)
  clear z7
  replace h8 := Lib.hid h8
  refine list_if (u := .slice pO pN pC) (b := q101B) (c := true) (c' := q101B) (dk := 95) rfl (by kernel_rfl) (f95.trans (cv_true _).symm) rfl (by cases q101B <;> rfl) (fun h => run_load1 (s := .pointer (some ⟨cb, 11, none⟩)) rfl (f96.trans (cv_of h)) (by have c : wz.cell? ⟨cb, 11, none⟩ = some (.slice pO pN pC) := XZ.cell 11; go_simp)) ?_
  refine abs_list _ (fun a9 h9 => ?_)
  have z9 := sp h9 z8
  replace f1 := kp h9 (by decide) f1
  replace f3 := kp h9 (by decide) f3
  replace f95 := kp h9 (by decide) f95
  have f97 := nw h9 z8 (by decide)
  clear f96 z8
  replace h9 := Lib.hid h9
  refine list_if (u := .int .i64 (pN : Nat)) (b := q101B) (c := true) (c' := q101B) (dk := 95) rfl (by kernel_rfl) (f95.trans (cv_true _).symm) rfl (by cases q101B <;> rfl) (fun h => run_lens (s := .slice pO pN pC) rfl (f97.trans (cv_of h)) (fun cs => len_sl23 _ _ _ _ cs)) ?_
  refine abs_list _ (fun a10 h10 => ?_)
  have z10 := sp h10 z9
  replace f1 := kp h10 (by decide) f1
  replace f3 := kp h10 (by decide) f3
  replace f95 := kp h10 (by decide) f95
  have f98 := nw h10 z9 (by decide)
  clear f97 z9
  replace h10 := Lib.hid h10
  refine list_if (u := .pointer (some ⟨cb, 12, none⟩)) (b := q101B) (c := true) (c' := q101B) (dk := 95) rfl (by kernel_rfl) (f95.trans (cv_true _).symm) rfl (by cases q101B <;> rfl) (fun h => run_field (s := .pointer (some ⟨cb, 0, none⟩)) rfl f1 (by kernel_rfl)) ?_
  refine abs_list _ (fun a11 h11 => ?_)
  have z11 := sp h11 z10
  replace f1 := kp h11 (by decide) f1
  replace f3 := kp h11 (by decide) f3
  replace f95 := kp h11 (by decide) f95
  replace f98 := kp h11 (by decide) f98
  have f99 := nw h11 z10 (by decide)
  clear z10
  replace h11 := Lib.hid h11
  refine list_if (u := .slice kO kN kC) (b := q101B) (c := true) (c' := q101B) (dk := 95) rfl (by kernel_rfl) (f95.trans (cv_true _).symm) rfl (by cases q101B <;> rfl) (fun h => run_load1 (s := .pointer (some ⟨cb, 12, none⟩)) rfl (f99.trans (cv_of h)) (by have c : wz.cell? ⟨cb, 12, none⟩ = some (.slice kO kN kC) := XZ.cell 12; go_simp)) ?_
  refine abs_list _ (fun a12 h12 => ?_)
  have z12 := sp h12 z11
  replace f1 := kp h12 (by decide) f1
  replace f3 := kp h12 (by decide) f3
  replace f95 := kp h12 (by decide) f95
  replace f98 := kp h12 (by decide) f98
  have f100 := nw h12 z11 (by decide)
  clear f99 z11
  replace h12 := Lib.hid h12
  refine list_if (u := .int .i64 (kN : Nat)) (b := q101B) (c := true) (c' := q101B) (dk := 95) rfl (by kernel_rfl) (f95.trans (cv_true _).symm) rfl (by cases q101B <;> rfl) (fun h => run_lens (s := .slice kO kN kC) rfl (f100.trans (cv_of h)) (fun cs => len_sl24 _ _ _ _ cs)) ?_
  refine abs_list _ (fun a13 h13 => ?_)
  have z13 := sp h13 z12
  replace f1 := kp h13 (by decide) f1
  replace f3 := kp h13 (by decide) f3
  replace f95 := kp h13 (by decide) f95
  replace f98 := kp h13 (by decide) f98
  have f101 := nw h13 z12 (by decide)
  clear f100 z12
  replace h13 := Lib.hid h13
  refine list_if (u := .int .i64 ((pN + kN : Nat) : Nat)) (b := q101B) (c := true) (c' := q101B) (dk := 95) rfl (by kernel_rfl) (f95.trans (cv_true _).symm) rfl (by cases q101B <;> rfl) (fun h => run_ord (s := .int .i64 (pN : Nat)) (j := .int .i64 (kN : Nat)) rfl (.inr (.inr (.inr (.inr (.inl rfl))))) (f98.trans (cv_of h)) (f101.trans (cv_of h)) (add_n _ _ (by omega) _)) ?_
  refine abs_list _ (fun a14 h14 => ?_)
  have z14 := sp h14 z13
  replace f1 := kp h14 (by decide) f1
  replace f3 := kp h14 (by decide) f3
  replace f95 := kp h14 (by decide) f95
  have f102 := nw h14 z13 (by decide)
  clear f98 f101 z13
  replace h14 := Lib.hid h14
  refine list_if (u := .pointer (some ⟨cb, 13, none⟩)) (b := q101B) (c := true) (c' := q101B) (dk := 95) rfl (by kernel_rfl) (f95.trans (cv_true _).symm) rfl (by cases q101B <;> rfl) (fun h => run_field (s := .pointer (some ⟨cb, 0, none⟩)) rfl f1 (by kernel_rfl)) ?_
  refine abs_list _ (fun a15 h15 => ?_)
  have z15 := sp h15 z14
  replace f1 := kp h15 (by decide) f1
  replace f3 := kp h15 (by decide) f3
  replace f95 := kp h15 (by decide) f95
  replace f102 := kp h15 (by decide) f102
  have f103 := nw h15 z14 (by decide)
  clear z14
  replace h15 := Lib.hid h15
  refine list_if (u := .slice gO gN gC) (b := q101B) (c := true) (c' := q101B) (dk := 95) rfl (by kernel_rfl) (f95.trans (cv_true _).symm) rfl (by cases q101B <;> rfl) (fun h => run_load1 (s := .pointer (some ⟨cb, 13, none⟩)) rfl (f103.trans (cv_of h)) (by have c : wz.cell? ⟨cb, 13, none⟩ = some (.slice gO gN gC) := XZ.cell 13; go_simp)) ?_
  refine abs_list _ (fun a16 h16 => ?_)
  have z16 := sp h16 z15
  replace f1 := kp h16 (by decide) f1
  replace f3 := kp h16 (by decide) f3
  replace f95 := kp h16 (by decide) f95
  replace f102 := kp h16 (by decide) f102
  have f104 := nw h16 z15 (by decide)
  clear f103 z15
  replace h16 := Lib.hid h16
  refine list_if (u := .int .i64 (gN : Nat)) (b := q101B) (c := true) (c' := q101B) (dk := 95) rfl (by kernel_rfl) (f95.trans (cv_true _).symm) rfl (by cases q101B <;> rfl) (fun h => run_lens (s := .slice gO gN gC) rfl (f104.trans (cv_of h)) (fun cs => len_sl25 _ _ _ _ cs)) ?_
  refine abs_list _ (fun a17 h17 => ?_)
  have z17 := sp h17 z16
  replace f1 := kp h17 (by decide) f1
  replace f3 := kp h17 (by decide) f3
  replace f95 := kp h17 (by decide) f95
  replace f102 := kp h17 (by decide) f102
  have f105 := nw h17 z16 (by decide)
  clear f104 z16
  replace h17 := Lib.hid h17
  refine list_if (u := .int .i64 ((pN + kN + gN : Nat) : Nat)) (b := q101B) (c := true) (c' := q101B) (dk := 95) rfl (by kernel_rfl) (f95.trans (cv_true _).symm) rfl (by cases q101B <;> rfl) (fun h => run_ord (s := .int .i64 ((pN + kN : Nat) : Nat)) (j := .int .i64 (gN : Nat)) rfl (.inr (.inr (.inr (.inr (.inl rfl))))) (f102.trans (cv_of h)) (f105.trans (cv_of h)) (add_n _ _ (by omega) _)) ?_
  refine abs_list _ (fun a18 h18 => ?_)
  have z18 := sp h18 z17
  replace f1 := kp h18 (by decide) f1
  replace f3 := kp h18 (by decide) f3
  replace f95 := kp h18 (by decide) f95
  have f106 := nw h18 z17 (by decide)
  clear f102 f105 z17
  replace h18 := Lib.hid h18
  refine list_if (u := .pointer (some ⟨cb, 14, none⟩)) (b := q101B) (c := true) (c' := q101B) (dk := 95) rfl (by kernel_rfl) (f95.trans (cv_true _).symm) rfl (by cases q101B <;> rfl) (fun h => run_field (s := .pointer (some ⟨cb, 0, none⟩)) rfl f1 (by kernel_rfl)) ?_
  refine abs_list _ (fun a19 h19 => ?_)
  have z19 := sp h19 z18
  replace f1 := kp h19 (by decide) f1
  replace f3 := kp h19 (by decide) f3
  replace f95 := kp h19 (by decide) f95
  replace f106 := kp h19 (by decide) f106
  have f107 := nw h19 z18 (by decide)
  clear z18
  replace h19 := Lib.hid h19
  refine list_if (u := .slice dO dN dC) (b := q101B) (c := true) (c' := q101B) (dk := 95) rfl (by kernel_rfl) (f95.trans (cv_true _).symm) rfl (by cases q101B <;> rfl) (fun h => run_load1 (s := .pointer (some ⟨cb, 14, none⟩)) rfl (f107.trans (cv_of h)) (by have c : wz.cell? ⟨cb, 14, none⟩ = some (.slice dO dN dC) := XZ.cell 14; go_simp)) ?_
  refine abs_list _ (fun a20 h20 => ?_)
  have z20 := sp h20 z19
  replace f1 := kp h20 (by decide) f1
  replace f3 := kp h20 (by decide) f3
  replace f95 := kp h20 (by decide) f95
  replace f106 := kp h20 (by decide) f106
  have f108 := nw h20 z19 (by decide)
  clear f107 z19
  replace h20 := Lib.hid h20
  refine list_if (u := .int .i64 (dN : Nat)) (b := q101B) (c := true) (c' := q101B) (dk := 95) rfl (by kernel_rfl) (f95.trans (cv_true _).symm) rfl (by cases q101B <;> rfl) (fun h => run_lens (s := .slice dO dN dC) rfl (f108.trans (cv_of h)) (fun cs => len_sl26 _ _ _ _ cs)) ?_
  refine abs_list _ (fun a21 h21 => ?_)
  have z21 := sp h21 z20
  replace f1 := kp h21 (by decide) f1
  replace f3 := kp h21 (by decide) f3
  replace f95 := kp h21 (by decide) f95
  replace f106 := kp h21 (by decide) f106
  have f109 := nw h21 z20 (by decide)
  clear f108 z20
  replace h21 := Lib.hid h21
  refine list_if (u := .int .i64 ((pN + kN + gN + dN : Nat) : Nat)) (b := q101B) (c := true) (c' := q101B) (dk := 95) rfl (by kernel_rfl) (f95.trans (cv_true _).symm) rfl (by cases q101B <;> rfl) (fun h => run_ord (s := .int .i64 ((pN + kN + gN : Nat) : Nat)) (j := .int .i64 (dN : Nat)) rfl (.inr (.inr (.inr (.inr (.inl rfl))))) (f106.trans (cv_of h)) (f109.trans (cv_of h)) (add_n _ _ (by omega) _)) ?_
  refine abs_list _ (fun a22 h22 => ?_)
  have z22 := sp h22 z21
  replace f1 := kp h22 (by decide) f1
  replace f3 := kp h22 (by decide) f3
  replace f95 := kp h22 (by decide) f95
  have f110 := nw h22 z21 (by decide)
  clear f106 f109 z21
  replace h22 := Lib.hid h22
  refine list_if (u := .bool t10B) (b := q101B) (c := true) (c' := q101B) (dk := 95) rfl (by kernel_rfl) (f95.trans (cv_true _).symm) rfl (by cases q101B <;> rfl) (fun h => run_cmp_int (k := .i64) (p := ((pN + kN + gN + dN : Nat) : Nat)) (q := 0) rfl (.inr rfl) (f110.trans (cv_of h)) rfl ((eql_i3 _ _ _).trans (by rw [ht10B]))) ?_
  refine abs_list _ (fun a23 h23 => ?_)
  have z23 := sp h23 z22
  replace f1 := kp h23 (by decide) f1
  replace f3 := kp h23 (by decide) f3
  replace f95 := kp h23 (by decide) f95
  have f111 := nw h23 z22 (by decide)
  clear f110 z22
  replace h23 := Lib.hid h23
  obtain ⟨q102B, hq102B⟩ : ∃ q : Bool, (q101B && t10B) = q := ⟨_, rfl⟩
  refine list_val (u := .bool q102B) rfl rfl (run_pick (b := q101B) rfl f95 (by rw [f111, ← hq102B]; cases q101B <;> cases t10B <;> simp [cv, eval_const])) ?_
  refine abs_list _ (fun a24 h24 => ?_)
  have z24 := sp h24 z23
  replace f1 := kp h24 (by decide) f1
  replace f3 := kp h24 (by decide) f3
  have f112 := nw h24 z23 (by decide)
  clear f95 f111 z23
  replace h24 := Lib.hid h24
  refine list_val (u := .bool q102B) rfl rfl (run_assign rfl f112 _) ?_
  refine abs_list _ (fun a25 h25 => ?_)
  have z25 := sp h25 z24
  replace f1 := kp h25 (by decide) f1
  replace f3 := kp h25 (by decide) f3
  have f2 := nw h25 z24 (by decide)
  clear f112 z24
  replace h25 := Lib.hid h25
  refine wpList_nil ?_
  rw [h25.out, h24.out, h23.out, h22.out, h21.out, h20.out, h19.out, h18.out, h17.out, h16.out, h15.out, h14.out, h13.out, h12.out, h11.out, h10.out, h9.out, h8.out, h7.out, h6.out, h5.out, h4.out, h3.out, h2.out, h1.out, HB.out]
  simp only [Act.put, List.setIfInBounds_toArray, List.set_cons_zero, List.set_cons_succ]
  clear f1 f3 f2 z25 HB hsz h1 h2 h3 h4 h5 h6 h7 h8 h9 h10 h11 h12 h13 h14 h15 h16 h17 h18 h19 h20 h21 h22 h23 h24 h25
  have HY := Lib.hid (show rb = q102B by
    rw [← HR2.out]
    unfold bareZ
    rw [ht1B, ht2B, ht3B, ht4B, ht5B, ht6B, ht7B, ht8B, ht9B, ht10B]
    subst_vars
    rfl)
  go_wp2_with fail
  go_ret
  exact ⟨ret_bool HY.out.symm, belz⟩
end Go.Proofs.YtlaemmplemngmaaDoor.ck
