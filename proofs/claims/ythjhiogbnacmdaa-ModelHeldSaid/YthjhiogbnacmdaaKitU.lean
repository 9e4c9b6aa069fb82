/- General words, over any program: more steps of a region that draws its order, its act a variable. -/
import Derived.Test.YthjhiogbnacmdaaKitT
import Derived.Test.YthjhiogbnacmdaaKitP
namespace Go.Proofs.Ythjhiogbnacmdaa.kit
open Go.ChangeShapes Go.WideShapes Go.ChangeAt Go.RowKit
section
variable {P : Program} {ops : Array Oper} {Q : Exit → Act → World → Prop} {S : World → Prop}
theorem run_nilc {oi : Oper} {a : Act} {x : Operand} {p : Addr} {v : World} (ho : oi.op = .nilCheck x) (hx : a.eval x = .pointer (some p)) : (execOp a.eval oi).run P v = .ok (.value (.pointer (some p))) v := by
  unfold execOp
  simp only [ho, hx, Sem.run_pure]
theorem run_buildv {oi : Oper} {a : Act} {x : Operand} {ty : TypeId} {s u : Value} {v : World} (ho : oi.op = .build ty #[(0, x)]) (hx : a.eval x = s) (hr : (Instr.build ty #[(0, s)]).run P v = .ok u v) : (execOp a.eval oi).run P v = .ok (.value u) v := by
  unfold execOp
  simp only [ho, List.map_toArray, List.map_cons, List.map_nil, hx, Sem.run_bind, Sem.run_pure, Result.andThen_ok, hr]
/-- An append that comes alone. -/
theorem step_app {i : Nat} {o : Oper} {d fuel : Nat} {L : Array Bool} {a : Act} {w w' : World} {s x : Operand} {t : TypeId} {v sv v' : Value} (hr : Region.ready .any ops L = [i]) (hi : ops[i]? = some o) (hg : o.guard = none) (hd : o.dst = some d) (ho : o.op = .call { callee := .builtin .append, args := #[s, x], argTypes := #[t, t] })
    (hs : a.eval s = v) (hx : a.eval x = sv) (hrun : ∀ ty, (Builtin.append_ #[t, t] ty #[v, sv]).run P w = .ok v' w') (hS : S w') (h : wpAnyH P .any ops Q S fuel (L.setIfInBounds i true) (a.put (some d) v') w') : wpAnyH P .any ops Q S (fuel + 1) L a w :=
  wpAnyH_step hr (by simp) fun j hj => by
    obtain rfl : j = i := by simpa using hj
    exact wpOp_of hi hg (wp_append_src s x t ho hs hx (hrun _) ⟨hS, hd ▸ h⟩)
/-! ### The same where loads go ahead of what writes their cells (KitP) -/
variable {c : Nat}
theorem begin_C {id : Nat} {a : Act} {w : World} (S : World → Prop) (c : Nat) (hm : P.follows .mixedOrders = true) (h : wpAnyC P .any ops Q S c ops.size (Array.replicate ops.size false) a w.drew) : (Code.region id ops true).wp P Q a w :=
  wp_region_any hm (wpAny_of_C _ _ _ _ h)
theorem abs_C {fuel : Nat} {L : Array Bool} (a : Act) {w : World} (h : ∀ b : Act, b = a → wpAnyC P .any ops Q S c fuel L b w) : wpAnyC P .any ops Q S c fuel L a w := h a rfl
theorem take_C {i : Nat} (p : List Nat) {oi : Oper} {u : Value} {d : Nat} {fuel : Nat} {L : Array Bool} {a : Act} {w : World} (hi : ops[i]? = some oi) (hs : Region.noSelect ops = true) (hf : Region.free .any ops L i = true) (hr : (Region.ready .any ops L).contains i = true) (hc : closedB .any ops L = true) (hp : pathB .any ops c i p = true) (hcs : c < L.size)
    (hg : oi.guard = none) (hd : oi.dst = some d) (hQ : ∀ c a w, Q (.panic c) (a.put oi.dst u) w → Q (.panic c) a w) (hS : S w) (hrun : ∀ v, S v → (execOp a.eval oi).run P v = .ok (.value u) v)
    (h : wpAnyC P .any ops Q S c fuel (L.setIfInBounds i true) (a.put (some d) u) w) : wpAnyC P .any ops Q S c (fuel + 1) L a w :=
  wpAnyC_take p hi hs hf hr hc hp hcs hQ hS (.inl ⟨by simp [Region.wanted, hg], hrun⟩) (hd ▸ h)
theorem take_Y {i : Nat} {oi : Oper} {u : Value} {d : Nat} {fuel : Nat} {L : Array Bool} {a : Act} {w : World} (hi : ops[i]? = some oi) (hs : Region.noSelect ops = true) (hf : Region.free .any ops L i = true) (hr : (Region.ready .any ops L).contains i = true) (hic : i ≠ c)
    (hg : oi.guard = none) (hd : oi.dst = some d) (hQ : ∀ c a w, Q (.panic c) (a.put oi.dst u) w → Q (.panic c) a w) (hS : S w) (hrun : ∀ v, (execOp a.eval oi).run P v = .ok (.value u) v)
    (h : wpAnyC P .any ops Q S c fuel (L.setIfInBounds i true) (a.put (some d) u) w) : wpAnyC P .any ops Q S c (fuel + 1) L a w :=
  wpAnyC_takeY hi hs hf hr hic hQ hS (.inl ⟨by simp [Region.wanted, hg], hrun⟩) (hd ▸ h)
theorem one_C {i : Nat} {o : Oper} {fuel : Nat} {L : Array Bool} {a : Act} {w : World} (hr : Region.ready .any ops L = [i]) (hi : ops[i]? = some o) (hg : o.guard = none) (h : ∀ K : Act → World → Prop, (∀ a' w', (i ≠ c → S w') → wpAnyC P .any ops Q S c fuel (L.setIfInBounds i true) a' w' → K a' w') → o.wp P a w K Q) : wpAnyC P .any ops Q S c (fuel + 1) L a w :=
  wpAnyC_one hr hi fun K hK => by
    rw [if_pos (by simp [Region.wanted, hg])]
    exact h K hK
theorem val_C {i : Nat} {o : Oper} {u : Value} {d fuel : Nat} {L : Array Bool} {a : Act} {w w' : World} (hr : Region.ready .any ops L = [i]) (hi : ops[i]? = some o) (hg : o.guard = none) (hd : o.dst = some d) (hS : i ≠ c → S w') (hrun : (execOp a.eval o).run P w = .ok (.value u) w')
    (h : wpAnyC P .any ops Q S c fuel (L.setIfInBounds i true) (a.put (some d) u) w') : wpAnyC P .any ops Q S c (fuel + 1) L a w :=
  one_C hr hi hg fun _ hK => wp_val hrun hd (hK _ _ hS h)
theorem app_C {i : Nat} {o : Oper} {d fuel : Nat} {L : Array Bool} {a : Act} {w w' : World} {s x : Operand} {t : TypeId} {v sv v' : Value} (hr : Region.ready .any ops L = [i]) (hi : ops[i]? = some o) (hg : o.guard = none) (hd : o.dst = some d) (ho : o.op = .call { callee := .builtin .append, args := #[s, x], argTypes := #[t, t] })
    (hs : a.eval s = v) (hx : a.eval x = sv) (hrun : (Builtin.append_ #[t, t] o.type #[v, sv]).run P w = .ok v' w') (hS : i ≠ c → S w') (h : wpAnyC P .any ops Q S c fuel (L.setIfInBounds i true) (a.put (some d) v') w') : wpAnyC P .any ops Q S c (fuel + 1) L a w :=
  one_C hr hi hg fun _ hK => wp_append_src s x t ho hs hx hrun (hK _ _ hS (hd ▸ h))
theorem store_C {i : Nat} {o : Oper} {x y : Operand} {ty : TypeId} {p u : Value} {fuel : Nat} {L : Array Bool} {a : Act} {w w' : World} (hr : Region.ready .any ops L = [i]) (hi : ops[i]? = some o) (hg : o.guard = none) (ho : o.op = .store ty x y) (hd : o.dst = none) (hx : a.eval x = p) (hy : a.eval y = u) (hS : i ≠ c → S w') (hrun : (Instr.storeAt ty p u).run P w = .ok () w')
    (h : wpAnyC P .any ops Q S c fuel (L.setIfInBounds i true) a w') : wpAnyC P .any ops Q S c (fuel + 1) L a w :=
  one_C hr hi hg fun _ hK => wp_store1 ho hd hx hy hrun (hK _ _ hS h)
theorem done_C {L : Array Bool} {a : Act} {w : World} (hr : Region.ready .any ops L = []) (h : Q .normal a w) : ∀ fuel, wpAnyC P .any ops Q S c fuel L a w
  | 0 => ⟨hr, h⟩
  | _ + 1 => ⟨fun _ => h, by rw [hr]; simp⟩
end
end Go.Proofs.Ythjhiogbnacmdaa.kit
