/- Layer 31: whatever is put, taken, doubled and bent; words of the statement's walk. -/
import Derived.Test.YtdocphkpeonldaaNplE
namespace Go.Proofs.Ytdocphkpeonldaa.npl
open Go.Sort (grow)
open Go.ChangeShapes Go.WideShapes Go.ChangeAt Go.RowKit kit storm byt
set_option maxRecDepth 100000

section
variable {P : Program}
theorem run_loadVar_from {w : World} (p : Addr) (ty : TypeId) {cs : Array Value} (d : TypeDesc) (C : ∀ (j : Nat) u, cs[j]? = some u → w.cell? (p.add j) = some u)
    (hu : P.underlying ty = some d) (hd : (match d with | .struct _ | .array _ _ => true | _ => false) = true) (hi : (P.info? ty).map (·.size) = some cs.size) :
    (loadVar ty p).run P w = .ok (.agg cs) w := by
  have hl : (loadCells p cs.toList.length).run P w = .ok cs.toList.toArray w :=
    run_loadCells_list (P := P) w p cs.toList (fun j v hv => C j v (by simpa using hv))
  cases hq : P.info? ty with
  | none => simp [hq] at hi
  | some i =>
    have hs : i.size = cs.size := by simpa [hq] using hi
    have hagg : (isAgg ty).run P w = .ok true w := by
      unfold isAgg
      rw [Sem.run_bind, run_underlying hu w]
      cases d <;> simp_all
    simp only [Array.length_toList, Array.toArray_toList] at hl
    simp [loadVar, Sem.run_bind, hagg, sizeOf, typeInfo, hq, hs, hl]
/-- A struct or array loaded from any address. -/
theorem wpList_load_from {ops : Array Oper} {rest : List Oper} {q : Oper} {a : Act} {w : World} {Q : Exit → Act → World → Prop} (hgd : q.guard = none) (ty : TypeId) (x : Operand) (ho : q.op = .load ty x)
    (p : Addr) (hx : a.eval x = .pointer (some p)) (cs : Array Value) (d : TypeDesc) (C : ∀ (j : Nat) u, cs[j]? = some u → w.cell? (p.add j) = some u)
    (hu : P.underlying ty = some d) (hd : (match d with | .struct _ | .array _ _ => true | _ => false) = true) (hi : (P.info? ty).map (·.size) = some cs.size)
    (k : wpList P ops Q rest (a.put q.dst (.agg cs)) w) : wpList P ops Q (q :: rest) a w :=
  wpList_plain hgd fun _ hK => by
    unfold Oper.wp execOp
    simp only [ho, hx, Instr.loadAt, Instr.sureAddr, Sem.run_bind, Sem.run_pure, Result.andThen_ok, run_loadVar_from p ty d C hu hd hi]
    exact hK _ _ k
end
/-- What is done: which, a packet, a place, a bit. -/
structure Ac where
  what : Int
  x : It
  at_ : Int
  bit : Int
def ar (a : Ac) : Array Value := #[.int .i64 a.what, .int .i64 a.x.leg, .int .i64 a.x.nat, .int .u32 a.x.fr, .int .u32 a.x.to, .string a.x.s, .bool a.x.bent, .int .i64 a.at_, .int .i64 a.bit]
def ac0 : Ac := ⟨0, it0, 0, 0⟩
theorem szA (a : Ac) : (Try.prog.info? 113).map (·.size) = some (ar a).size := by show _ = some 9; kernel_rfl
theorem add_block (a : Addr) (i : Nat) : (a.add i).block = a.block := by unfold Addr.add; split <;> rfl
/-- A row of acts. -/
structure RowA (w : World) (a : Addr) (len : Nat) (E : Nat → Ac) : Prop where
  lt : 0 < len → a.block < w.heap.size
  cell : ∀ i, i < len → ∀ (j : Nat) u, (ar (E i))[j]? = some u → w.cell? ((a.add (i * 9)).add j) = some u
theorem RowA.below {w w' : World} {a : Addr} {len B : Nat} {E : Nat → Ac} (h : RowA w a len E) (hb : Below B w w') (hB : 0 < len → a.block < B) : RowA w' a len E :=
  ⟨fun h0 => Nat.lt_of_lt_of_le (h.lt h0) hb.size, fun i hi j u hu => (hb.cell (p := (a.add (i * 9)).add j) (by rw [add_block, add_block]; exact hB (by omega))).trans (h.cell i hi j u hu)⟩
/-- The net, and the list that the statement keeps. -/
structure Qs (g : Nat) (l lq : Value) (L : List It) (w : World) : Prop where
  ns : NS g g l L w
  own : w.ownsRow g 70 6 lq L.length (cellsI L)
  ne : ∀ k, lq.ownBlock = some k → k ≠ g ∧ l.ownBlock ≠ some k
def Sm (L : List It) : Prop := ∀ x ∈ L, x.s.size ≤ 10
theorem Qs.below {g B : Nat} {l lq : Value} {L : List It} {w w' : World} (q : Qs g l lq L w) (hb : Below B w w') (hB : B = w.heap.size) : Qs g l lq L w' := by
  subst hB
  exact ⟨q.ns.below hb rfl, own_all q.own hb, q.ne⟩
theorem Sm.app {L M : List It} (h : Sm L) (k : Sm M) : Sm (L ++ M) := fun x hx => by
  rcases List.mem_append.1 hx with q | q
  · exact h x q
  · exact k x q
theorem Sm.one {x : It} (h : x.s.size ≤ 10) : Sm [x] := fun y hy => by
  rw [List.mem_singleton] at hy
  subst hy
  exact h
theorem Sm.getD {L : List It} (h : Sm L) {k : Nat} (hk : k < L.length) : (L.getD k it0).s.size ≤ 10 := by
  refine h _ ?_
  rw [List.getD_eq_getElem?_getD, List.getElem?_eq_getElem hk]
  exact List.getElem_mem hk
theorem Sm.erase {L : List It} (h : Sm L) (k : Nat) : Sm (L.eraseIdx k) := fun x hx => h x ((List.eraseIdx_sublist L k).subset hx)
theorem Sm.set {L : List It} (h : Sm L) (k : Nat) {x : It} (hx : x.s.size ≤ 10) : Sm (L.set k x) := fun y hy => by
  rcases List.mem_or_eq_of_mem_set hy with q | q
  · exact h y q
  · rw [q]; exact hx
/-- Behind what the net does, and what the statement does to a list of its own that lies behind. -/
theorem Qs.next {g : Nat} {l lq l' lq' : Value} {L L' : List It} {w w1 w2 : World} (q : Qs g l lq L w) (n : NS g g l' L' w1) (hl : ∀ k, l'.ownBlock = some k → l.ownBlock = some k ∨ w.heap.size ≤ k) (hs : w.heap.size ≤ w1.heap.size) (own : w2.ownsRow g 70 6 lq' L'.length (cellsI L')) (hq : ∀ k, lq'.ownBlock = some k → w1.heap.size ≤ k) (hb : Below w1.heap.size w1 w2) : Qs g l' lq' L' w2 := by
  refine ⟨n.below hb rfl, own, fun k hk => ⟨?_, fun e => ?_⟩⟩
  · have := hq k hk
    have := n.B.lt
    omega
  · have h1 := hq k hk
    have h2 := own_lt n.own k e
    omega
/-- The statement's own list behind what the net does alone. -/
theorem Qs.keep {g : Nat} {l lq : Value} {L : List It} {w w1 : World} (q : Qs g l lq L w) (f : Frm g l w w1) : w1.ownsRow g 70 6 lq L.length (cellsI L) :=
  own_other q.own (fun k hk => f.block k (own_lt q.own k hk) (q.ne k hk).1 (q.ne k hk).2)
end Go.Proofs.Ytdocphkpeonldaa.npl
