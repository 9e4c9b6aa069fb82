/- Layer 15: whatever is done to paths; the statement walked (gen-ppk.py wrote this). -/
import Derived.Test.YthddacgdmngfhaaPpI
import Derived.Test.YthddacgdmngfhaaKitS
namespace Go.Proofs.Ythddacgdmngfhaa.pat
open Go.Sort (grow)
open Go.ChangeShapes Go.WideShapes Go.ChangeAt Go.RowKit kit
set_option maxRecDepth 1000000

theorem add_blk (a : Addr) (i : Nat) : (a.add i).block = a.block := by unfold Addr.add; split <;> rfl
/-- An act: what, addresses, a place. -/
structure Az where
  w : Int
  l : Int
  p : Int
  n : Int
def azc (x : Az) : Array Value := #[.int .i64 x.w, .int .i64 x.l, .int .i64 x.p, .int .i64 x.n]
theorem szAz (x : Az) : (Try.prog.info? 117).map (·.size) = some (azc x).size := by show _ = some 4; kernel_rfl
/-- What holds behind so many acts. -/
structure Ps (G g : Nat) (L : List Px) (f : Nat) (v0 vq : Value) (w wr : World) : Prop where
  P : Pw G g L f v0 wr
  q : Qo wr G 15 vq L.length (cellsX L)
  ng : blkOf vq ≠ some g
  nv : ∀ i, blkOf v0 = some i → blkOf vq ≠ some i
  hf : f < L.length
  h8 : L.length ≤ 8
  hx : ∀ x ∈ L, 1 ≤ x.a ∧ x.a ≤ 4 ∧ 8 ≤ x.b ∧ x.b ≤ 11
  bel : Below G w wr
theorem Ps.below {G g f : Nat} {L : List Px} {v0 vq : Value} {w wr w' : World} (h : Ps G g L f v0 vq w wr) {k : Nat} (hb : Below k wr w') (hk : wr.heap.size ≤ k) : Ps G g L f v0 vq w w' :=
  ⟨h.P.below hb hk, h.q.below hb hk, h.ng, h.nv, h.hf, h.h8, h.hx, h.bel.trans (hb.mono (by have := h.P.B.lt; have := h.P.hg; omega))⟩
/-- Paths alone have turned: the list lies apart. -/
theorem Ps.fr {G g f f' : Nat} {L : List Px} {v0 v1 vq : Value} {w wr w' : World} (h : Ps G g L f v0 vq w wr) (P : Pw G g L f' v1 w') (hf' : f' < L.length) (hb : Below G wr w') (F : Fr g v0 wr w') (hv : ∀ i, blkOf v1 = some i → blkOf v0 = some i ∨ wr.heap.size ≤ i) : Ps G g L f' v1 vq w w' :=
  ⟨P, h.q.block F.size fun i hi => F.block i (h.q.lt hi).2 (fun e => h.ng (e ▸ hi)) (fun e => h.nv i e hi), h.ng, fun i hi e => by
    rcases hv i hi with h' | h'
    · exact h.nv i h' e
    · have := (h.q.lt e).2; omega, hf', h.h8, h.hx, h.bel.trans hb⟩

theorem run_ord {P : Program} {oi : Oper} {a : Act} {x y : Operand} {tx ty : TypeId} {s j u : Value} {v : World} {op : BinOp} (ho : oi.op = .binOp op tx x y ty) (hop : op = .geq ∨ op = .lss) (hx : a.eval x = s) (hy : a.eval y = j) (hr : (binOp op tx s j).run P v = .ok u v) : (execOp a.eval oi).run P v = .ok (.value u) v := by
  unfold execOp
  rcases hop with rfl | rfl <;> simp [ho, hx, hy, eqGuard, hr]
theorem geqI (a b : Int) (W : World) : (binOp .geq 3 (.int .i64 a) (.int .i64 b)).run Try.prog W = .ok (.bool (decide (b ≤ a))) W := by go_simp
theorem lssI (a b : Int) (W : World) : (binOp .lss 3 (.int .i64 a) (.int .i64 b)).run Try.prog W = .ok (.bool (decide (a < b))) W := by go_simp
theorem lenS (v : Value) (oq : Option Addr) (n cq : Nat) (W : World) (cs) : (builtin .len #[115] 3 cs #[.slice oq n cq]).run Try.prog W = .ok (.value (.int .i64 (n : Nat))) W := by go_simp
theorem lenI (oq : Option Addr) (n cq : Nat) (W : World) (cs) : (builtin .len #[25] 3 cs #[.slice oq n cq]).run Try.prog W = .ok (.value (.int .i64 (n : Nat))) W := by go_simp
theorem neqI9 (b : Int) (W : World) : (binOp .neq 3 (.int .i64 b) (.int .i64 b)).run Try.prog W = .ok (.bool false) W := by go_simp
theorem neqB (b : Bool) (W : World) : (binOp .neq 4 (.bool b) (.bool b)).run Try.prog W = .ok (.bool false) W := by cases b <;> kernel_rfl
/-- A place out of a row of places. -/
theorem int_at {w : World} {b n cap k q : Nat} {oa : Option Addr} {P : List Nat} (h : Qo w b 1 (.slice oa n cap) n (cellsI P)) (hq : P[k]? = some q) : ∃ g off, oa = some ⟨g, off, none⟩ ∧ w.cell? ⟨g, off + k, none⟩ = some (.int .i64 (q : Nat)) := by
  have hk : k < P.length := (List.getElem?_eq_some_iff.1 hq).1
  have hl := h.len
  have hn : P.length = n := by simpa [cellsI] using hl
  obtain ⟨gn, no, cap', e, h1, h2, h3, h4, h5, h6⟩ := h.show_ (by omega)
  simp only [Value.slice.injEq, true_and] at e
  obtain ⟨rfl, rfl⟩ := e
  have K := h6 k #[.int .i64 (q : Nat)] (by omega) (Nat.le_refl 1) (fun j hj => by
    have : j = 0 := by have : j < 1 := hj; omega
    subst this
    unfold cellsI
    rw [Nat.mul_one, Nat.add_zero, List.getElem?_map, hq]; rfl)
  rw [Nat.mul_one] at K
  exact ⟨gn, no, rfl, K.cell 0 (u := .int .i64 (q : Nat)) rfl⟩
/-- What holds behind the switch. -/
def Cn (G g ab : Nat) (P : Array Value) (w : World) (s4 s5 : Value) (wx : World) : Prop := ∃ (L : List Px) (f : Nat) (v0 : Value) (oq : Option Addr) (cq : Nat), s4 = .slice oq L.length cq ∧ s5 = .int .i64 (f : Nat) ∧ Ps G g L f v0 (.slice oq L.length cq) w wx ∧ Blk wx ab 117 P
def notSkip : Code → Bool
  | .skip => false
  | _ => true
/-- The first 'if' on a slot that does something. -/
def findCond (k : Nat) : Code → Option (Code × Code)
  | .loop c => findCond k c
  | .seq a b => match findCond k a with
    | some c => some c
    | none => findCond k b
  | .block _ c => findCond k c
  | .scope c => findCond k c
  | .cond (.tmp t) a b => if t = k ∧ notSkip a = true then some (a, b) else match findCond k a with
    | some c => some c
    | none => findCond k b
  | _ => none
noncomputable def code0 : Code := ((Try.f10.body.bind (findCond 97)).map (·.1)).getD .skip
noncomputable def code1 : Code := ((Try.f10.body.bind (findCond 132)).map (·.1)).getD .skip
noncomputable def code2 : Code := ((Try.f10.body.bind (findCond 197)).map (·.1)).getD .skip
noncomputable def code3 : Code := ((Try.f10.body.bind (findCond 197)).map (·.2)).getD .skip
end Go.Proofs.Ythddacgdmngfhaa.pat
