/- Layer 20: whatever waits and is taken: the world of the statement, and its arms' code. -/
import Derived.Test.YthddacgdmngfhaaSqE
import Derived.Test.YthddacgdmngfhaaSqF
import Derived.Test.YthddacgdmngfhaaMz
namespace Go.Proofs.Ythddacgdmngfhaa.fra
open Go.Sort (grow)
open Go.ChangeShapes Go.WideShapes Go.ChangeAt Go.RowKit kit
set_option maxRecDepth 100000

theorem infoI : (Try.prog.info? 3).map (fun i => (i.zero, i.size, i.bytes)) = some (some (.int .i64 0), 1, 8) := by kernel_rfl
theorem Sq.weaken {b0 b1 g : Nat} {pv cv : Value} {P : List Nat} {C : List Ck} {w : World} (h : Sq b0 g pv cv P C w) (hb : b1 ≤ b0) : Sq b1 g pv cv P C w :=
  ⟨h.B, h.p.weaken hb, h.c.weaken hb, h.np, h.nc, h.pc, Nat.le_trans hb h.hg⟩
theorem Sq.alloc' {b0 g : Nat} {pv cv : Value} {P : List Nat} {C : List Ck} {w : World} (h : Sq b0 g pv cv P C w) (o : Obj) : Sq b0 g pv cv P C (w.alloc o) := h.below ((Below.refl w.heap.size w).alloc (Nat.le_refl _) o) (Nat.le_refl _)
theorem blkOf_some {a : Addr} {n cap k : Nat} (h : blkOf (.slice (some a) n cap) = some k) : a.block = k := by
  cases cap with
  | zero => cases h
  | succ c => exact Option.some.inj h
theorem mkN_run (m : Nat) (w : World) (hm : m ≤ 1000) : (Instr.makeSlice 25 (.int .i64 m) (.int .i64 m)).run Try.prog w = .ok (.slice (some ⟨w.heap.size, 0, none⟩) m m) (w.alloc (.cells (cellsN (List.replicate m 0)).toArray 3)) := by
  have h := infoI
  cases hi : Try.prog.info? 3 with
  | none => rw [hi] at h; cases h
  | some i =>
    rw [hi] at h
    simp only [Option.map_some, Option.some.injEq, Prod.mk.injEq] at h
    obtain ⟨h1, h2, h3⟩ := h
    have := run_make w 25 3 i (.int .i64 0) Try.underlying25 hi h1 .i64 .i64 m m (by omega) (by omega) (by rw [h3]; omega) (by omega)
    have hc : madeCells #[Value.int .i64 0] m = (cellsN (List.replicate m 0)).toArray := by
      apply Array.ext_getElem?
      intro j
      by_cases hj : j < m
      · simp [madeCells, cellsN, hj, Nat.mod_one]
      · rw [Array.getElem?_eq_none (by simp [madeCells]; omega), Array.getElem?_eq_none (by simp [cellsN]; omega)]
    rw [this, h2, ← hc]
    simp [Value.cells]
theorem qo_new (w : World) (m : Nat) (hm : m ≤ 1000) : Qo (w.alloc (.cells (cellsN (List.replicate m 0)).toArray 3)) w.heap.size 1 (.slice (some ⟨w.heap.size, 0, none⟩) m m) m (cellsN (List.replicate m 0)) := by
  have B := Blk.new w 3 (cellsN (List.replicate m 0)).toArray
  have hl : (cellsN (List.replicate m 0)).length = m := by simp [cellsN]
  refine ⟨by rw [hl]; omega, _, m, rfl, Nat.le_refl _, by unfold maxLen; omega, fun _ => ⟨w.heap.size, 0, rfl, Nat.le_refl _, B.lt, fun j hj => ?_, fun j hj => ?_⟩⟩
  · rw [Nat.zero_add]
    exact ⟨by rw [B.cell j, List.getElem?_toArray, List.getElem?_eq_getElem (by omega)]; rfl, B.frozen j⟩
  · rw [Nat.zero_add, B.cell j, List.getElem?_toArray]
/-- A queue, and the statement's own rows. -/
structure Gs (b0 g : Nat) (pv cv nv lv : Value) (P : List Nat) (C : List Ck) (w : World) : Prop where
  s : Sq b0 g pv cv P C w
  n : Qo w b0 1 nv P.length (cellsN P)
  l : Qo w b0 15 lv C.length (cellsC C)
  d1 : blkOf nv ≠ some g
  d2 : blkOf lv ≠ some g
  d3 : ∀ k, blkOf pv = some k ∨ blkOf cv = some k → blkOf nv ≠ some k ∧ blkOf lv ≠ some k
  d4 : ∀ k, blkOf nv = some k → blkOf lv ≠ some k
section
variable {b0 g : Nat} {pv cv nv lv : Value} {P : List Nat} {C : List Ck} {w w' : World}
theorem Gs.below {k : Nat} (h : Gs b0 g pv cv nv lv P C w) (hb : Below k w w') (hk : w.heap.size ≤ k) : Gs b0 g pv cv nv lv P C w' :=
  ⟨h.s.below hb hk, h.n.below hb hk, h.l.below hb hk, h.d1, h.d2, h.d3, h.d4⟩
end
/-- An act: what, a message, how long more, what is under way. -/
structure Aq where
  a : Int
  st : Int
  ss : Int
  lo : Bool
  pr : Int
  d : ByteArray
  lg : Int
  un : Int
def aqc (x : Aq) : Array Value := #[.int .i64 x.a, .int .i64 x.st, .int .i64 x.ss, .bool x.lo, .int .u32 x.pr, .string x.d, .int .i64 x.lg, .int .i64 x.un]
theorem szA (x : Aq) : (Try.prog.info? 32).map (·.size) = some (aqc x).size := by show _ = some 8; kernel_rfl
/-- What holds behind an arm. -/
def Rn (G g i : Nat) (w0 : World) (n7 l8 b9 : Value) (w' : World) : Prop := ∃ (P : List Nat) (C : List Ck) (pv cv : Value), b9 = .int .i64 (bts C : Nat) ∧ P.length ≤ 16 ∧ (∀ q ∈ P, q < 65536) ∧ C.length ≤ 16 * (i + 1) ∧ bts C ≤ 6000 ∧ Gs G g pv cv n7 l8 P C w' ∧ Below G w0 w'
def notSkip : Code → Bool
  | .skip => false
  | _ => true
/-- The first 'if' on a slot that does something. -/
def findCond (k : Nat) : Code → Option (Code × Code)
  | .loop c => findCond k c
  | .seq a b => match findCond k a with
    | some c => some c
    | none => findCond k b
  | .block _ c => findCond k c
  | .scope c => findCond k c
  | .cond (.tmp t) a b => if t = k ∧ notSkip a = true then some (a, b) else match findCond k a with
    | some c => some c
    | none => findCond k b
  | _ => none
noncomputable def codeT : Code := ((Try.f3.body.bind (findCond 147)).map (·.1)).getD .skip
noncomputable def codeG : Code := ((Try.f3.body.bind (findCond 196)).map (·.1)).getD .skip
noncomputable def codeD : Code := ((Try.f3.body.bind (findCond 196)).map (·.2)).getD .skip
end Go.Proofs.Ythddacgdmngfhaa.fra
