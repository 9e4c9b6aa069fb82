/- General words, over any program: cells known one by one; structs of many cells loaded and stored at any place. -/
import Derived.Test.YthjhiogbnacmdaaKit
import Derived.Laws.Tables
import Derived.Laws.ResultCell
import Derived.Laws.IdiomCopy
import Derived.Laws.AppendOwn
import Derived.Laws.OwnMore
import Derived.Laws.World
namespace Go.Proofs.Ythjhiogbnacmdaa.kit
open Go.ChangeShapes Go.WideShapes Go.ChangeAt Go.RowKit

/-- Cells known one by one, from a place of a block on; none of them frozen. -/
def Cel (w : World) (h o : Nat) (cs : Array Value) : Prop := h < w.heap.size ∧ ∀ j u, cs[j]? = some u → w.cell? ⟨h, o + j, none⟩ = some u ∧ w.frozen? ⟨h, o + j, none⟩ = false
section
variable {w w' : World} {h o g : Nat} {cs : Array Value}
theorem Cel.lt (C : Cel w h o cs) : h < w.heap.size := C.1
theorem Cel.cell (C : Cel w h o cs) (j : Nat) {u : Value} (hu : cs[j]? = some u) : w.cell? ⟨h, o + j, none⟩ = some u := (C.2 j u hu).1
theorem Cel.cell0 (C : Cel w h 0 cs) (j : Nat) {u : Value} (hu : cs[j]? = some u) : w.cell? ⟨h, j, none⟩ = some u := by have := (C.2 j u hu).1; rwa [Nat.zero_add] at this
theorem Cel.frozen (C : Cel w h o cs) (j : Nat) (hj : j < cs.size) : w.frozen? ⟨h, o + j, none⟩ = false := (C.2 j _ (Array.getElem?_eq_getElem hj)).2
theorem Cel.frozen0 (C : Cel w h 0 cs) (j : Nat) (hj : j < cs.size) : w.frozen? ⟨h, j, none⟩ = false := by have := C.frozen j hj; rwa [Nat.zero_add] at this
theorem Cel.isSome (C : Cel w h o cs) (j : Nat) (hj : j < cs.size) : (w.cell? ⟨h, o + j, none⟩).isSome = true := by rw [C.cell j (Array.getElem?_eq_getElem hj)]; rfl
theorem Cel.of_blk {t : TypeId} (B : Blk w g t cs) : Cel w g 0 cs := ⟨B.lt, fun j u hu => by rw [Nat.zero_add]; exact ⟨(B.cell j).trans hu, B.frozen j⟩⟩
theorem Cel.drew (C : Cel w h o cs) : Cel w.drew h o cs := C
theorem Cel.below {B : Nat} (C : Cel w h o cs) (hb : Below B w w') (hg : h < B) : Cel w' h o cs :=
  ⟨Nat.lt_of_lt_of_le C.1 hb.size, fun j u hu => ⟨(hb.cell (p := ⟨h, o + j, none⟩) hg).trans (C.2 j u hu).1, (hb.frozen (p := ⟨h, o + j, none⟩) hg).trans (C.2 j u hu).2⟩⟩
theorem Cel.alloc (C : Cel w h o cs) (b : Obj) : Cel (w.alloc b) h o cs := C.below ((Below.refl _ _).alloc (Nat.le_refl _) b) C.1
theorem Cel.far (C : Cel w h o cs) {p : Addr} (hp : h ≠ p.block) (v : Value) : Cel (w.setCell p v) h o cs :=
  ⟨by simpa [World.setCell] using C.1, fun j u hu => ⟨(World.cell?_of_block (a := ⟨h, o + j, none⟩) (Below.heap_setCell w p v h hp)).trans (C.2 j u hu).1, by rw [World.frozen?_setCell]; exact (C.2 j u hu).2⟩⟩
theorem Cel.block (C : Cel w h o cs) (hb : w'.heap[h]? = w.heap[h]?) (hs : h < w'.heap.size) : Cel w' h o cs :=
  ⟨hs, fun j u hu => ⟨(World.cell?_of_block (a := ⟨h, o + j, none⟩) hb).trans (C.2 j u hu).1, (World.frozen?_of_block (a := ⟨h, o + j, none⟩) hb).trans (C.2 j u hu).2⟩⟩
theorem Cel.set_ (C : Cel w h o cs) (i : Nat) (v : Value) : Cel (w.setCell ⟨h, o + i, none⟩ v) h o (cs.setIfInBounds i v) := by
  refine ⟨by simpa [World.setCell] using C.1, fun j u hu => ?_⟩
  rw [World.frozen?_setCell]
  have hj : j < cs.size := by
    have := (Array.getElem?_eq_some_iff.1 hu).1
    simpa using this
  by_cases hij : i = j
  · subst hij
    rw [Array.getElem?_setIfInBounds_self_of_lt hj] at hu
    refine ⟨?_, C.frozen i hj⟩
    rw [World.cell?_setCell_same _ _ _ (C.cell i (Array.getElem?_eq_getElem hj))]
    exact hu
  · rw [Array.getElem?_setIfInBounds_ne hij] at hu
    refine ⟨?_, C.frozen j hj⟩
    rw [World.cell?_setCell_other w _ _ v (by intro e; simp at e; first | done | omega)]
    exact C.cell j hu
theorem size_setCells {w : World} : ∀ (vs : List Value) (o : Nat) (w : World), (w.setCells h o vs).heap.size = w.heap.size
  | [], _, _ => rfl
  | v :: r, o, w => by rw [World.setCells, size_setCells (w := w) r]; simp [World.setCell]
theorem Cel.setCells_same (C : Cel w h o cs) (vs : List Value) (hl : vs.length = cs.size) : Cel (w.setCells h o vs) h o vs.toArray := by
  refine ⟨by rw [size_setCells (w := w)]; exact C.1, fun j u hu => ?_⟩
  have hj : j < vs.length := by simpa using (Array.getElem?_eq_some_iff.1 hu).1
  rw [World.frozen?_setCells]
  refine ⟨?_, C.frozen j (by omega)⟩
  rw [World.cell?_setCells_in h vs o w (fun k hk => C.isSome k (by omega)) j hj]
  simpa [List.getElem?_eq_getElem hj] using hu
theorem Cel.setCells_far (C : Cel w h o cs) (hne : h ≠ g) (k : Nat) (vs : List Value) : Cel (w.setCells g k vs) h o cs := by
  refine ⟨by rw [size_setCells (w := w)]; exact C.1, fun j u hu => ?_⟩
  rw [World.frozen?_setCells, World.cell?_setCells_out g vs k w _ (fun q _ => absurd q hne)]
  exact C.2 j u hu
theorem Cel.setCells_apart (C : Cel w h o cs) (k : Nat) (vs : List Value) (ha : o + cs.size ≤ k ∨ k + vs.length ≤ o) : Cel (w.setCells h k vs) h o cs := by
  refine ⟨by rw [size_setCells (w := w)]; exact C.1, fun j u hu => ?_⟩
  have hj := (Array.getElem?_eq_some_iff.1 hu).1
  rw [World.frozen?_setCells, World.cell?_setCells_out h vs k w _ (fun _ _ => by show o + j < k ∨ k + vs.length ≤ o + j; omega)]
  exact C.2 j u hu
theorem Cel.sub (C : Cel w h o cs) (k n : Nat) : Cel w h (o + k) (cs.extract k n) := by
  refine ⟨C.1, fun j u hu => ?_⟩
  rw [Array.getElem?_extract] at hu
  split at hu
  · have := C.2 (k + j) u hu
    rwa [← Nat.add_assoc] at this
  · cases hu
theorem Cel.of_owns {base : Nat} {e : TypeId} {size n cap : Nat} {xs : List Value} (H : w.ownsRow base e size (.slice (some ⟨g, 0, none⟩) n cap) n xs) : Cel w g 0 xs.toArray := by
  refine ⟨?_, fun j u hu => ?_⟩
  · rcases H.2 with ⟨h', _⟩ | ⟨g', cap', cur, h', _, hg, _⟩
    · simp at h'
    · simp only [Value.slice.injEq, Option.some.injEq, Addr.mk.injEq, and_true, true_and] at h'
      obtain ⟨rfl, rfl⟩ := h'
      exact (Array.getElem?_eq_some_iff.1 hg).1
  · rw [Nat.zero_add]
    have hj : j < n * size := by have := (Array.getElem?_eq_some_iff.1 hu).1; have := H.1; simp at *; omega
    refine ⟨(World.ownsRow.cellAt H j hj).trans ?_, World.ownsRow.frozenAt H j⟩
    simpa using hu
theorem Cel.congr {ds : Array Value} (C : Cel w h o cs) (e : cs = ds) : Cel w h o ds := e ▸ C
end
theorem blk_setCells {w : World} {g h : Nat} {t : TypeId} {cs : Array Value} (B : Blk w g t cs) (hne : g ≠ h) : ∀ (o : Nat) (vs : List Value), Blk (w.setCells h o vs) g t cs := by
  intro o vs
  induction vs generalizing o w with
  | nil => exact B
  | cons v vs ih => exact ih (B.far (p := ⟨h, o, none⟩) hne v) (o + 1)
theorem below_setCells {B g : Nat} {a w : World} (h : Below B a w) (hg : B ≤ g) : ∀ (o : Nat) (vs : List Value), Below B a (w.setCells g o vs) := by
  intro o vs
  induction vs generalizing o w with
  | nil => exact h
  | cons v vs ih => exact ih (h.setCell (p := ⟨g, o, none⟩) hg v) (o + 1)
theorem blk_setRow {w : World} {g h : Nat} {t : TypeId} {cs : Array Value} (B : Blk w g t cs) (hne : g ≠ h) (xs : Array Value) : Blk (w.setRow h xs) g t cs := by
  unfold Blk at *
  unfold World.setRow
  simp [Array.getElem?_modify, Ne.symm hne, B]
theorem cel_setRow {w : World} {g h o : Nat} {cs : Array Value} (C : Cel w g o cs) (hne : g ≠ h) (xs : Array Value) : Cel (w.setRow h xs) g o cs :=
  C.block (setRow_other w h g xs hne) (by simpa using C.1)
theorem below_setRow {B g : Nat} {a w : World} (h : Below B a w) (hg : B ≤ g) (cs : Array Value) : Below B a (w.setRow g cs) := by
  refine ⟨h.os, h.tape, h.output, by simpa using h.size, fun k hk => ?_⟩
  rw [setRow_other w g k cs (by omega)]
  exact h.block k hk

/-- Of what was there, one block alone has turned. -/
structure Only (g : Nat) (w w' : World) : Prop where
  size : w.heap.size ≤ w'.heap.size
  block : ∀ k, k < w.heap.size → k ≠ g → w'.heap[k]? = w.heap[k]?
theorem Only.blk {g k : Nat} {w w' : World} {t : TypeId} {cs : Array Value} (O : Only g w w') (B : Blk w k t cs) (hk : k ≠ g) : Blk w' k t cs := (O.block k B.lt hk).trans B
theorem Only.cel {g h o : Nat} {w w' : World} {cs : Array Value} (O : Only g w w') (C : Cel w h o cs) (hk : h ≠ g) : Cel w' h o cs := C.block (O.block h C.1 hk) (Nat.lt_of_lt_of_le C.1 O.size)
theorem Only.of_below {g : Nat} {w w' : World} (hb : Below w.heap.size w w') : Only g w w' := ⟨hb.size, fun k hk _ => hb.block k hk⟩
theorem Only.trans {g : Nat} {a b c : World} (h : Only g a b) (k : Only g b c) : Only g a c := ⟨Nat.le_trans h.size k.size, fun i hi hg => (k.block i (Nat.lt_of_lt_of_le hi h.size) hg).trans (h.block i hi hg)⟩
theorem Only.setCell {g : Nat} {a b : World} (h : Only g a b) (o : Nat) (v : Value) : Only g a (b.setCell ⟨g, o, none⟩ v) :=
  ⟨by simpa [World.setCell] using h.size, fun i hi hg => (Below.heap_setCell b ⟨g, o, none⟩ v i hg).trans (h.block i hi hg)⟩
theorem Only.alloc {g : Nat} {a b : World} (h : Only g a b) (o : Obj) : Only g a (b.alloc o) := h.trans (Only.of_below ((Below.refl _ _).alloc (Nat.le_refl _) o))
theorem Only.drew {g : Nat} {a b : World} (h : Only g a b) : Only g a b.drew := ⟨h.size, h.block⟩
theorem Only.refl (g : Nat) (w : World) : Only g w w := ⟨Nat.le_refl _, fun _ _ _ => rfl⟩

section
variable {P : Program}
theorem run_loadVar_at {w : World} {h o : Nat} (ty : TypeId) {cs : Array Value} (d : TypeDesc) (C : Cel w h o cs)
    (hu : P.underlying ty = some d) (hd : (match d with | .struct _ | .array _ _ => true | _ => false) = true) (hi : (P.info? ty).map (·.size) = some cs.size) :
    (loadVar ty ⟨h, o, none⟩).run P w = .ok (.agg cs) w := by
  have hl : (loadCells ⟨h, o, none⟩ cs.toList.length).run P w = .ok cs.toList.toArray w :=
    run_loadCells_list (P := P) w ⟨h, o, none⟩ cs.toList (fun j v hv => by
      have hadd : (⟨h, o, none⟩ : Addr).add j = ⟨h, o + j, none⟩ := by unfold Addr.add; split <;> simp_all
      rw [hadd]
      exact C.cell j (by simpa using hv))
  cases hq : P.info? ty with
  | none => simp [hq] at hi
  | some i =>
    have hs : i.size = cs.size := by simpa [hq] using hi
    have hagg : (isAgg ty).run P w = .ok true w := by
      unfold isAgg
      rw [Sem.run_bind, run_underlying hu w]
      cases d <;> simp_all
    simp only [Array.length_toList, Array.toArray_toList] at hl
    simp [loadVar, Sem.run_bind, hagg, sizeOf, typeInfo, hq, hs, hl]
/-- A struct or array loaded out of any place. -/
theorem wpList_load_at {ops : Array Oper} {rest : List Oper} {q : Oper} {a : Act} {w : World} {Q : Exit → Act → World → Prop} (hgd : q.guard = none) (ty : TypeId) (x : Operand) (ho : q.op = .load ty x)
    (h o : Nat) (hx : a.eval x = .pointer (some ⟨h, o, none⟩)) (cs : Array Value) (d : TypeDesc) (C : Cel w h o cs)
    (hu : P.underlying ty = some d) (hd : (match d with | .struct _ | .array _ _ => true | _ => false) = true) (hi : (P.info? ty).map (·.size) = some cs.size)
    (k : wpList P ops Q rest (a.put q.dst (.agg cs)) w) : wpList P ops Q (q :: rest) a w :=
  wpList_plain hgd fun _ hK => by
    unfold Oper.wp execOp
    simp only [ho, hx, Instr.loadAt, Instr.sureAddr, Sem.run_bind, Sem.run_pure, Result.andThen_ok, run_loadVar_at ty d C hu hd hi]
    exact hK _ _ k
theorem run_storeVar_at {w : World} {h o : Nat} (ty : TypeId) {old cs : Array Value} (C : Cel w h o old) (hi : (P.info? ty).map (·.size) = some cs.size)
    (hs : old.size = cs.size) (h1 : cs.all (·.oneCell') = true) :
    (storeVar ty ⟨h, o, none⟩ (.agg cs)).run P w = .ok () (w.setCells h o cs.toList) := by
  have := run_storeCells_cells (P := P) h o cs.toList 0 w (fun j hj => by rw [Nat.add_zero]; exact C.isSome j (by simp at hj; omega)) (fun j hj => by rw [Nat.add_zero]; exact C.frozen j (by simp at hj; omega)) (fun v hv => (Array.all_eq_true_iff_forall_mem.1 h1) v (by simpa using hv))
  rw [Nat.add_zero] at this
  cases hq : P.info? ty with
  | none => simp [hq] at hi
  | some i =>
    have hs : cs.size = i.size := by simp [hq] at hi; omega
    simp [storeVar, sizeOf, typeInfo, hq, Value.cells, hs, this]
/-- A struct or array stored at any place. -/
theorem wpList_store_at {ops : Array Oper} {rest : List Oper} {q : Oper} {a : Act} {w : World} {Q : Exit → Act → World → Prop} (hgd : q.guard = none) (ty : TypeId) (x y : Operand) (ho : q.op = .store ty x y)
    (h o : Nat) (cs : Array Value) (hx : a.eval x = .pointer (some ⟨h, o, none⟩)) (hy : a.eval y = .agg cs)
    (old : Array Value) (C : Cel w h o old) (hi : (P.info? ty).map (·.size) = some cs.size) (hs : old.size = cs.size) (h1 : cs.all (·.oneCell') = true)
    (k : wpList P ops Q rest (a.put q.dst undef) (w.setCells h o cs.toList)) : wpList P ops Q (q :: rest) a w :=
  wpList_plain hgd fun _ hK => by
    unfold Oper.wp execOp
    simp only [ho, hx, hy, Instr.storeAt, Instr.sureAddr, Sem.run_bind, Sem.run_pure, Result.andThen_ok, run_storeVar_at ty C hi hs h1]
    exact hK _ _ k
/-- A result that lies in memory. -/
theorem results_cell_at {fn : Func} {p : Tmp} {ty : TypeId} (hr : fn.results = #[.cell p ty]) (tmps : Array Value) (w : World) (h o : Nat) (cs : Array Value) (d : TypeDesc)
    (hp : tmps.getD p undef = .pointer (some ⟨h, o, none⟩)) (C : Cel w h o cs)
    (hu : P.underlying ty = some d) (hd : (match d with | .struct _ | .array _ _ => true | _ => false) = true) (hi : (P.info? ty).map (·.size) = some cs.size) :
    (results fn tmps).run P w = .ok (.agg cs) w := by
  have hp' : tmps[p]?.getD undef = .pointer (some ⟨h, o, none⟩) := by simpa using hp
  simp [results, hr, hp', asAddr, run_loadVar_at ty d C hu hd hi]
/-- Two results, the first of which lies in memory. -/
theorem results_cell_tmp_at {fn : Func} {p u : Tmp} {ty : TypeId} (hr : fn.results = #[.cell p ty, .tmp u]) (tmps : Array Value) (w : World) (h o : Nat) (cs : Array Value) (d : TypeDesc)
    (hp : tmps.getD p undef = .pointer (some ⟨h, o, none⟩)) (C : Cel w h o cs)
    (hu : P.underlying ty = some d) (hd : (match d with | .struct _ | .array _ _ => true | _ => false) = true) (hi : (P.info? ty).map (·.size) = some cs.size) :
    (results fn tmps).run P w = .ok (.tuple #[.agg cs, tmps.getD u undef]) w := by
  rw [results_cell_tmp hr, hp]
  simp [asAddr, run_loadVar_at ty d C hu hd hi]
end
end Go.Proofs.Ythjhiogbnacmdaa.kit
