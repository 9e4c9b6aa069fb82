/- General words, over any program: parts of rows that are shifted, and what is written into them. -/
import Derived.Test.YthjhiogbnacmdaaKitQ
import Derived.Test.YthjhiogbnacmdaaKitU
namespace Go.Proofs.Ythjhiogbnacmdaa.kit
open Go.ChangeShapes Go.WideShapes Go.ChangeAt Go.RowKit
section
variable {P : Program} {w w' : World} {b0 size n : Nat} {v : Value} {xs : List Value}
/-- 'q[:k]'. -/
theorem qo_take {t e : TypeId} (ht : P.underlying t = some (.slice e)) (hi : (P.info? e).map (·.size) = some size) (q : Qo w b0 size v n xs) (k : Nat) (hk : k ≤ n) : ∃ v', (∀ W, (Instr.slice t v none (some (.int .i64 k)) none).run P W = .ok v' W) ∧ Qo w b0 size v' k (xs.take (k * size)) ∧ (∃ oa cap, v' = .slice oa k cap) ∧ (blkOf v' = blkOf v ∨ blkOf v' = none) := by
  obtain ⟨oa, cap, rfl, hc, hm, h3⟩ := q.val
  have hl := q.len
  cases hi' : P.info? e with
  | none => rw [hi'] at hi; cases hi
  | some i =>
    have hkn : k * size ≤ n * size := Nat.mul_le_mul_right _ hk
    refine ⟨.slice oa k cap, fun W => ?_, ⟨by rw [List.length_take, hl, Nat.min_eq_left hkn], oa, cap, rfl, by omega, hm, fun h0 => ?_⟩, ⟨oa, cap, rfl⟩, .inl (by cases cap <;> cases oa <;> rfl)⟩
    · have h1 : (k : Int) ≤ (cap : Int) := by omega
      cases oa with
      | none => simp [Instr.slice, run_underlying ht, Instr.sliceBounds, run_sliceBound, sizeOf, typeInfo, hi', h1]
      | some a =>
        obtain ⟨g, off, e, _⟩ | h0 : (∃ g off, some a = some (⟨g, off, none⟩ : Addr) ∧ True) ∨ cap = 0 := by
          rcases Nat.eq_zero_or_pos cap with h0 | h0
          · exact .inr h0
          · obtain ⟨g, off, e, _⟩ := h3 h0
            exact .inl ⟨g, off, e, trivial⟩
        · obtain rfl := Option.some.inj e
          simp [Instr.slice, run_underlying ht, Instr.sliceBounds, run_sliceBound, sizeOf, typeInfo, hi', h1, add_some]
        · subst h0
          obtain rfl : k = 0 := by omega
          simp [Instr.slice, run_underlying ht, Instr.sliceBounds, run_sliceBound, sizeOf, typeInfo, hi']
    · obtain ⟨g, off, e, h4, h5, h6, h7⟩ := h3 h0
      refine ⟨g, off, e, h4, h5, h6, fun j hj => ?_⟩
      rw [h7 j (by omega), List.getElem?_take, if_pos hj]
/-- 'q[k:]'. -/
theorem qo_drop {t e : TypeId} (ht : P.underlying t = some (.slice e)) (hi : (P.info? e).map (·.size) = some size) (q : Qo w b0 size v n xs) (k : Nat) (hk : k ≤ n) (hn : 0 < n) : ∃ v', (∀ W, (Instr.slice t v (some (.int .i64 k)) none none).run P W = .ok v' W) ∧ Qo w b0 size v' (n - k) (xs.drop (k * size)) ∧ (∃ oa cap, v' = .slice oa (n - k) cap) ∧ (blkOf v' = blkOf v ∨ blkOf v' = none) := by
  obtain ⟨oa, cap, rfl, hc, hm, h3⟩ := q.val
  obtain ⟨g, off, rfl, h4, h5, h6, h7⟩ := h3 (by omega)
  have hl := q.len
  cases hi' : P.info? e with
  | none => rw [hi'] at hi; cases hi
  | some i =>
    have hsz : i.size = size := by rw [hi'] at hi; exact Option.some.inj hi
    refine ⟨.slice (if cap = k then some ⟨g, off, none⟩ else some ⟨g, off + k * size, none⟩) (n - k) (cap - k), fun W => ?_, ⟨?_, _, cap - k, rfl, by omega, by omega, fun h0 => ?_⟩, ⟨_, _, rfl⟩, ?_⟩
    · have h1 : (k : Int) ≤ (n : Int) := by omega
      simp [Instr.slice, run_underlying ht, Instr.sliceBounds, run_sliceBound, sizeOf, typeInfo, hi', hsz, h1, add_some]
    · rw [List.length_drop, hl, Nat.sub_mul]
    · rw [if_neg (by omega)]
      have hcs : (cap - k) * size + k * size = cap * size := by rw [← Nat.add_mul]; congr 1; omega
      have hns : (n - k) * size + k * size = n * size := by rw [← Nat.add_mul]; congr 1; omega
      refine ⟨g, off + k * size, rfl, h4, h5, fun j hj => ?_, fun j hj => ?_⟩
      · rw [Nat.add_assoc]
        exact h6 _ (by omega)
      · rw [Nat.add_assoc, h7 _ (by omega), List.getElem?_drop]
    · rcases Nat.eq_zero_or_pos (cap - k) with h0 | h0
      · right; rw [h0]; exact blkOf_zero
      · left
        rw [if_neg (by omega), blkOf_pos h0, blkOf_pos (by omega)]
/-- One cell of it written. -/
theorem Qo.set_ (q : Qo w b0 size v n xs) {g off : Nat} {cap : Nat} (hv : v = .slice (some ⟨g, off, none⟩) n cap) (j : Nat) (hj : j < n * size) (u : Value) : Qo (w.setCell ⟨g, off + j, none⟩ u) b0 size v n (xs.set j u) := by
  have hn : 0 < n := Nat.pos_of_ne_zero fun e => by rw [e, Nat.zero_mul] at hj; omega
  obtain ⟨oa, cap', e, h1, h2, h3⟩ := q.val
  rw [hv] at e
  simp only [Value.slice.injEq, true_and] at e
  obtain ⟨rfl, rfl⟩ := e
  obtain ⟨g', off', e, h4, h5, h6, h7⟩ := h3 (by omega)
  simp only [Option.some.injEq, Addr.mk.injEq, and_true] at e
  obtain ⟨rfl, rfl⟩ := e
  have hnc : n * size ≤ cap * size := Nat.mul_le_mul_right _ h1
  have hc := h6 j (by omega)
  refine ⟨by rw [List.length_set, q.len], _, cap, hv, h1, h2, fun _ => ⟨g, off, rfl, h4, by simpa [World.setCell] using h5, fun i hi => ⟨?_, ?_⟩, fun i hi => ?_⟩⟩
  · by_cases e : i = j
    · subst e
      obtain ⟨u0, hu0⟩ := Option.isSome_iff_exists.1 hc.1
      rw [World.cell?_setCell_same _ _ _ hu0]
      rfl
    · rw [World.cell?_setCell_other w _ _ _ (by intro h; simp at h; first | done | omega)]
      exact (h6 i hi).1
  · rw [World.frozen?_setCell]
    exact (h6 i hi).2
  · by_cases e : i = j
    · subst e
      obtain ⟨u0, hu0⟩ := Option.isSome_iff_exists.1 hc.1
      rw [World.cell?_setCell_same _ _ _ hu0, List.getElem?_set_self (by rw [q.len]; exact hi)]
    · rw [World.cell?_setCell_other w _ _ _ (by intro h; simp at h; first | done | omega), h7 i hi, List.getElem?_set_ne (fun h => e h.symm)]
/-- An append at a plain region's list. -/
theorem wpList_append_q {ops : Array Oper} {rest : List Oper} {o : Oper} {a : Act} {Q : Exit → Act → World → Prop} (hgd : o.guard = none) (s x : Operand) (t : TypeId)
    (ho : o.op = .call { callee := .builtin .append, args := #[s, x], argTypes := #[t, t] }) {v sv v' : Value} (hs : a.eval s = v) (hx : a.eval x = sv)
    (hr : (Builtin.append_ #[t, t] o.type #[v, sv]).run P w = .ok v' w') (h : wpList P ops Q rest (a.put o.dst v') w') : wpList P ops Q (o :: rest) a w :=
  wpList_plain hgd fun _ hK => wp_append_src s x t ho hs hx hr (hK _ _ h)
theorem run_slice_hi {oi : Oper} {a : Act} {x h : Operand} {ty : TypeId} {s j u : Value} {v : World} (ho : oi.op = .slice ty x none (some h) none) (hx : a.eval x = s) (hh : a.eval h = j) (hu : P.underlying ty = some (.slice (P.elem ty))) (hr : (Instr.slice ty s none (some j) none).run P v = .ok u v) : (execOp a.eval oi).run P v = .ok (.value u) v := by
  unfold execOp
  simp only [ho, hx, hh, Option.map_some, Option.map_none, run_sliceAt_slice _ _ _ _ _ _ hu, Sem.run_bind, Sem.run_pure, Result.andThen_ok, hr]
theorem run_slice_lo {oi : Oper} {a : Act} {x l : Operand} {ty : TypeId} {s j u : Value} {v : World} (ho : oi.op = .slice ty x (some l) none none) (hx : a.eval x = s) (hl : a.eval l = j) (hu : P.underlying ty = some (.slice (P.elem ty))) (hr : (Instr.slice ty s (some j) none none).run P v = .ok u v) : (execOp a.eval oi).run P v = .ok (.value u) v := by
  unfold execOp
  simp only [ho, hx, hl, Option.map_some, Option.map_none, run_sliceAt_slice _ _ _ _ _ _ hu, Sem.run_bind, Sem.run_pure, Result.andThen_ok, hr]
theorem run_add {oi : Oper} {a : Act} {x y : Operand} {tx ty : TypeId} {s j u : Value} {v : World} (ho : oi.op = .binOp .add tx x y ty) (hx : a.eval x = s) (hy : a.eval y = j) (hr : (binOp .add tx s j).run P v = .ok u v) : (execOp a.eval oi).run P v = .ok (.value u) v := by
  unfold execOp
  simp [ho, hx, hy, eqGuard, hr]
theorem run_build0 {oi : Oper} {a : Act} {ty : TypeId} {s : Value} {v v' : World} (ho : oi.op = .buildSlice ty 0 #[]) (hr : (Instr.buildSlice ty 0 #[]).run P v = .ok s v') : (execOp a.eval oi).run P v = .ok (.value s) v' := by
  unfold execOp
  simp [ho, hr]
theorem run_assign {oi : Oper} {a : Act} {x : Operand} {u : Value} (ho : oi.op = .assign x) (hv : a.eval x = u) (v : World) : (execOp a.eval oi).run P v = .ok (.value u) v := by
  unfold execOp
  rw [ho]
  simp only [hv, Sem.run_bind, Sem.run_pure, Result.andThen_ok]
end
end Go.Proofs.Ythjhiogbnacmdaa.kit
