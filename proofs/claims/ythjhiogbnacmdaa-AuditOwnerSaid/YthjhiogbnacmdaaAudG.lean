/- Layer 38: rows of entries. -/
import Derived.Test.YthjhiogbnacmdaaAudF
import Derived.Deep.AppendLies
import Derived.Deep.RegionHeld3
namespace Go.Proofs.Ythjhiogbnacmdaa.aud
open Go.Sort (grow)
open Go.ChangeShapes Go.WideShapes Go.ChangeAt Go.RowKit kit
set_option maxRecDepth 100000

section
variable {P : Program}
theorem run_loadVar_from {w : World} (p : Addr) (ty : TypeId) {cs : Array Value} (d : TypeDesc) (C : ∀ (j : Nat) u, cs[j]? = some u → w.cell? (p.add j) = some u)
    (hu : P.underlying ty = some d) (hd : (match d with | .struct _ | .array _ _ => true | _ => false) = true) (hi : (P.info? ty).map (·.size) = some cs.size) :
    (loadVar ty p).run P w = .ok (.agg cs) w := by
  have hl : (loadCells p cs.toList.length).run P w = .ok cs.toList.toArray w :=
    run_loadCells_list (P := P) w p cs.toList (fun j v hv => C j v (by simpa using hv))
  cases hq : P.info? ty with
  | none => simp [hq] at hi
  | some i =>
    have hs : i.size = cs.size := by simpa [hq] using hi
    have hagg : (isAgg ty).run P w = .ok true w := by
      unfold isAgg
      rw [Sem.run_bind, run_underlying hu w]
      cases d <;> simp_all
    simp only [Array.length_toList, Array.toArray_toList] at hl
    simp [loadVar, Sem.run_bind, hagg, sizeOf, typeInfo, hq, hs, hl]
/-- A struct or array loaded from any address. -/
theorem wpList_load_from {ops : Array Oper} {rest : List Oper} {q : Oper} {a : Act} {w : World} {Q : Exit → Act → World → Prop} (hgd : q.guard = none) (ty : TypeId) (x : Operand) (ho : q.op = .load ty x)
    (p : Addr) (hx : a.eval x = .pointer (some p)) (cs : Array Value) (d : TypeDesc) (C : ∀ (j : Nat) u, cs[j]? = some u → w.cell? (p.add j) = some u)
    (hu : P.underlying ty = some d) (hd : (match d with | .struct _ | .array _ _ => true | _ => false) = true) (hi : (P.info? ty).map (·.size) = some cs.size)
    (k : wpList P ops Q rest (a.put q.dst (.agg cs)) w) : wpList P ops Q (q :: rest) a w :=
  wpList_plain hgd fun _ hK => by
    unfold Oper.wp execOp
    simp only [ho, hx, Instr.loadAt, Instr.sureAddr, Sem.run_bind, Sem.run_pure, Result.andThen_ok, run_loadVar_from p ty d C hu hd hi]
    exact hK _ _ k
end
/-- The cells of entries. -/
def cellsE : List Ent → List Value
  | [] => []
  | e :: r => (er e).toList ++ cellsE r
theorem cellsE_snoc (L : List Ent) (e : Ent) : cellsE (L ++ [e]) = cellsE L ++ (er e).toList := by
  induction L with
  | nil => simp [cellsE]
  | cons q r ih => simp [cellsE, ih]
theorem er_len (e : Ent) : (er e).toList.length = 7 := rfl
theorem cellsE_at : ∀ (L : List Ent) (k j : Nat) (u : Value), k < L.length → (er (L.getD k e0))[j]? = some u → (cellsE L)[k * 7 + j]? = some u
  | [], _, _, _, h, _ => absurd h (Nat.not_lt_zero _)
  | e :: r, 0, j, u, _, hu => by
    have hj : j < 7 := by have := (Array.getElem?_eq_some_iff.1 hu).1; exact this
    show ((er e).toList ++ cellsE r)[0 * 7 + j]? = some u
    rw [List.getElem?_append_left (by rw [er_len]; omega)]
    simpa using hu
  | e :: r, k + 1, j, u, h, hu => by
    show ((er e).toList ++ cellsE r)[(k + 1) * 7 + j]? = some u
    rw [List.getElem?_append_right (by rw [er_len]; omega), er_len, show (k + 1) * 7 + j - 7 = k * 7 + j by omega]
    exact cellsE_at r k j u (by simpa using h) (by simpa using hu)
theorem cel_of_cells {w : World} {h : Nat} {L : List Ent} (C : Cel w h 0 (cellsE L).toArray) (k : Nat) (hk : k < L.length) : Cel w h (k * 7) (er (L.getD k e0)) :=
  ⟨C.1, fun j u hu => by
    have := C.2 (k * 7 + j) u (by simpa using cellsE_at L k j u hk hu)
    rwa [Nat.zero_add] at this⟩
/-- A row of entries in memory. -/
structure RowE (w : World) (a : Addr) (len : Nat) (E : Nat → Ent) : Prop where
  lt : 0 < len → a.block < w.heap.size
  cell : ∀ i, i < len → ∀ (j : Nat) u, (er (E i))[j]? = some u → w.cell? ((a.add (i * 7)).add j) = some u
theorem add_block (a : Addr) (i : Nat) : (a.add i).block = a.block := by unfold Addr.add; split <;> rfl
theorem RowE.below {w w' : World} {a : Addr} {len B : Nat} {E : Nat → Ent} (h : RowE w a len E) (hb : Below B w w') (hB : 0 < len → a.block < B) : RowE w' a len E :=
  ⟨fun h0 => Nat.lt_of_lt_of_le (h.lt h0) hb.size, fun i hi j u hu => (hb.cell (p := (a.add (i * 7)).add j) (by rw [add_block, add_block]; exact hB (by omega))).trans (h.cell i hi j u hu)⟩
/-- The first ones, brought near. -/
def nl (E : Nat → Ent) : Nat → List Ent
  | 0 => []
  | n + 1 => nl E n ++ [nr (E n)]
theorem nl_len (E : Nat → Ent) (n : Nat) : (nl E n).length = n := by
  induction n with
  | zero => rfl
  | succ n ih => simp [nl, ih]
theorem nl_wf (E : Nat → Ent) (n k : Nat) (hk : k < n) : WfE ((nl E n).getD k e0) := by
  induction n with
  | zero => exact absurd hk (Nat.not_lt_zero k)
  | succ n ih =>
    by_cases h : k < n
    · have e : (nl E (n + 1)).getD k e0 = (nl E n).getD k e0 := by
        show (nl E n ++ [nr (E n)]).getD k e0 = _
        simp [List.getD, List.getElem?_append_left (show k < (nl E n).length by rw [nl_len]; exact h)]
      rw [e]
      exact ih h
    · obtain rfl : k = n := by omega
      have e : (nl E (k + 1)).getD k e0 = nr (E k) := by
        show (nl E k ++ [nr (E k)]).getD k e0 = _
        simp [List.getD, List.getElem?_append_right (show (nl E k).length ≤ k by rw [nl_len]; exact Nat.le_refl k), nl_len]
      rw [e]
      exact nr_wf _
theorem infoE : (Try.prog.info? 30).map (fun i => (i.zero, i.size, i.bytes)) = some (some (.agg #[.int .u32 0, .int .i64 0, .int .u32 0, .int .i64 0, .int .u32 0, .int .u32 0, .int .i64 0]), 7, 48) := by kernel_rfl
theorem er_one (e : Ent) : ∀ u ∈ (er e).toList, u.oneCell' = true := by
  intro u hu
  simp [er] at hu
  rcases hu with rfl | rfl | rfl | rfl | rfl | rfl | rfl <;> rfl
end Go.Proofs.Ythjhiogbnacmdaa.aud
