/- General words, over any program: a map whose keys are integers, entry by entry. -/
import Derived.Test.YthjhiogbnacmdaaKitB
import Derived.Maps.OwnSet
namespace Go.Proofs.Ythjhiogbnacmdaa.kit
open Go.ChangeShapes Go.WideShapes Go.ChangeAt Go.RowKit Go.ChangeMaps Go.MapKept
section
variable {P : Program} {T K E : TypeId} {q : IntKind} {w : World} {B c : Nat} {es : Array MapEntry} {a : Int}
theorem isKey_int (q : IntKind) (a : Int) : IsKey (.int q) (.int q a) := by simp [IsKey]
theorem lk_some (ht : P.underlying T = some (.map K E)) (hk : P.underlying K = some (.int q)) (hb : w.heap[B]? = some (.map es c)) {i : Nat} {v : Value} (hf : Instr.findNow (.int q) (.int q a) es.toList 0 = some (some (i, v))) :
    (Instr.lookup T (.map (some B)) (.int q a) true).run P w = .ok (.tuple #[v, .bool true]) w := by
  simp [Instr.lookup, run_underlying ht, MapKept.run_getObj_map hb, run_checkKey hk (isKey_int q a), run_findKey hk hf, Result.andThen]
theorem lk_none (ht : P.underlying T = some (.map K E)) (hk : P.underlying K = some (.int q)) (hb : w.heap[B]? = some (.map es c)) {z : Value} (hz : (zeroValue E).run P w = .ok z w) (hf : Instr.findNow (.int q) (.int q a) es.toList 0 = some none) :
    (Instr.lookup T (.map (some B)) (.int q a) true).run P w = .ok (.tuple #[z, .bool false]) w := by
  simp [Instr.lookup, run_underlying ht, MapKept.run_getObj_map hb, run_checkKey hk (isKey_int q a), run_findKey hk hf, hz, Result.andThen]
theorem lk_val (ht : P.underlying T = some (.map K E)) (hk : P.underlying K = some (.int q)) (hb : w.heap[B]? = some (.map es c)) {i : Nat} {v : Value} (hf : Instr.findNow (.int q) (.int q a) es.toList 0 = some (some (i, v))) :
    (Instr.lookup T (.map (some B)) (.int q a) false).run P w = .ok v w := by
  simp [Instr.lookup, run_underlying ht, MapKept.run_getObj_map hb, run_checkKey hk (isKey_int q a), run_findKey hk hf, Result.andThen]
theorem up_new (ht : P.underlying T = some (.map K E)) (hk : P.underlying K = some (.int q)) (hb : w.heap[B]? = some (.map es c)) (v : Value) (hf : Instr.findNow (.int q) (.int q a) es.toList 0 = some none) :
    (Instr.mapUpdate T (.map (some B)) (.int q a) v).run P w = .ok () (setBlock w B (.map (es.push ⟨.int q a, v, c⟩) (c + 1))) := by
  simp [Instr.mapUpdate, run_underlying ht, MapKept.run_getObj_map hb, run_checkKey hk (isKey_int q a), run_findKey hk hf, MapKept.run_setObj_map _ hb, Result.andThen, setBlock]
theorem del_some (ht : P.underlying T = some (.map K E)) (hk : P.underlying K = some (.int q)) (hb : w.heap[B]? = some (.map es c)) (ts : Array TypeId) (hts : ts[0]? = some T) (ty : TypeId) {i : Nat} {v : Value} (hf : Instr.findNow (.int q) (.int q a) es.toList 0 = some (some (i, v))) :
    (Builtin.delete_ ts ty #[.map (some B), .int q a]).run P w = .ok (.tuple #[]) (setBlock w B (.map (es.eraseIdxIfInBounds i) c)) := by
  simp [Builtin.delete_, hts, run_underlying ht, MapKept.run_getObj_map hb, run_checkKey hk (isKey_int q a), run_findKey hk hf, MapKept.run_setObj_map _ hb, Result.andThen, setBlock]
theorem len_map (ht : P.underlying T = some (.map K E)) (hb : w.heap[B]? = some (.map es c)) (ts : Array TypeId) (hts : ts[0]? = some T) (ty : TypeId) : (Builtin.len_ ts ty #[.map (some B)]).run P w = .ok (.int .i64 es.size) w := by
  simp [Builtin.len_, hts, run_underlying ht, MapKept.run_getObj_map hb, Result.andThen, goInt]
/-- Block B is this map. -/
def MapB (w : World) (B : Nat) (es : Array MapEntry) (c : Nat) : Prop := w.heap[B]? = some (.map es c)
theorem MapB.lt (h : MapB w B es c) : B < w.heap.size := (Array.getElem?_eq_some_iff.1 h).1
theorem MapB.new (w : World) : MapB (w.alloc (.map #[] 0)) w.heap.size #[] 0 := (heap_alloc w _).1
theorem MapB.block {w' : World} (h : MapB w B es c) (e : w'.heap[B]? = w.heap[B]?) : MapB w' B es c := e.trans h
theorem MapB.below {k : Nat} {w' : World} (h : MapB w B es c) (hb : Below k w w') (hk : B < k) : MapB w' B es c := (hb.block B hk).trans h
theorem MapB.alloc (h : MapB w B es c) (o : Obj) : MapB (w.alloc o) B es c := h.below ((Below.refl w.heap.size w).alloc (Nat.le_refl _) o) h.lt
theorem MapB.drew (h : MapB w B es c) : MapB w.drew B es c := h
theorem MapB.far (h : MapB w B es c) {p : Addr} (hp : B ≠ p.block) (v : Value) : MapB (w.setCell p v) B es c := (Below.heap_setCell w p v B hp).trans h
theorem MapB.set_ (h : MapB w B es c) (es' : Array MapEntry) (c' : Nat) : MapB (setBlock w B (.map es' c')) B es' c' := heap_setBlock_same h _
theorem MapB.other (h : MapB w B es c) (es' : Array MapEntry) (c' : Nat) {i : Nat} (hi : i ≠ B) : (setBlock w B (.map es' c')).heap[i]? = w.heap[i]? := heap_setBlock_other h _ hi
theorem MapB.size (w : World) (B : Nat) (o : Obj) : (setBlock w B o).heap.size = w.heap.size := by simp [setBlock]
theorem MapB.bel {b : Nat} {a : World} (h : MapB w B es c) (hb : Below b a w) (hB : b ≤ B) (es' : Array MapEntry) (c' : Nat) : Below b a (setBlock w B (.map es' c')) :=
  ⟨hb.os, hb.tape, hb.output, by rw [MapB.size]; exact hb.size, fun k hk => (h.other es' c' (by omega)).trans (hb.block k hk)⟩
theorem blk_map {t : TypeId} {g : Nat} {cs : Array Value} (h : MapB w B es c) (C : Blk w g t cs) (es' : Array MapEntry) (c' : Nat) : Blk (setBlock w B (.map es' c')) g t cs := by
  refine (h.other es' c' ?_).trans C
  intro e
  subst e
  have h1 : w.heap[g]? = some (.map es c) := h
  have h2 := C
  unfold Blk at h2
  rw [h1] at h2
  cases h2
theorem cel_map {g o : Nat} {cs : Array Value} (h : MapB w B es c) (C : Cel w g o cs) (hg : g ≠ B) (es' : Array MapEntry) (c' : Nat) : Cel (setBlock w B (.map es' c')) g o cs :=
  C.block (h.other es' c' hg) (by rw [MapB.size]; exact C.1)
end
end Go.Proofs.Ythjhiogbnacmdaa.kit
