/- A block whose first cells are bytes: made of a string, written, cleared, made a string again. Over any program. -/
import Derived.Test.YthddacgdmngfhaaKit
import Derived.Laws.IdiomStrings
import Derived.Lib.SliceRun
namespace Go.Proofs.Ythddacgdmngfhaa.byt
open Go.ChangeShapes Go.WideShapes Go.ChangeAt Go.RowKit kit

def bv (b : UInt8) : Value := .int .u8 (b.toNat : Int)
def IsBytes (w : World) (g : Nat) (l : List UInt8) : Prop := g < w.heap.size ∧ ∀ j (h : j < l.length), w.cell? ⟨g, j, none⟩ = some (bv l[j]) ∧ w.frozen? ⟨g, j, none⟩ = false
section
variable {w w' : World} {g : Nat} {l : List UInt8}
theorem IsBytes.lt (h : IsBytes w g l) : g < w.heap.size := h.1
theorem IsBytes.cell (h : IsBytes w g l) {j : Nat} (hj : j < l.length) : w.cell? ⟨g, j, none⟩ = some (bv l[j]) := (h.2 j hj).1
theorem IsBytes.free (h : IsBytes w g l) {j : Nat} (hj : j < l.length) : w.frozen? ⟨g, j, none⟩ = false := (h.2 j hj).2
theorem IsBytes.below {B : Nat} (h : IsBytes w g l) (hb : Below B w w') (hg : g < B) : IsBytes w' g l :=
  ⟨Nat.lt_of_lt_of_le h.1 hb.size, fun j hj => ⟨(hb.cell (p := ⟨g, j, none⟩) hg).trans (h.2 j hj).1, (hb.frozen (p := ⟨g, j, none⟩) hg).trans (h.2 j hj).2⟩⟩
theorem IsBytes.alloc (h : IsBytes w g l) (o : Obj) : IsBytes (w.alloc o) g l := h.below ((Below.refl w.heap.size w).alloc (Nat.le_refl _) o) h.1
theorem IsBytes.drew (h : IsBytes w g l) : IsBytes w.drew g l := h
theorem frozen_setCell (w : World) (p q : Addr) (u : Value) : (w.setCell p u).frozen? q = w.frozen? q := by
  unfold World.frozen? World.setCell
  simp only [Array.getElem?_modify]
  by_cases h : p.block = q.block
  · rw [if_pos h]
    cases hq : w.heap[q.block]? with
    | none => simp
    | some o => cases o <;> simp
  · rw [if_neg h]
theorem IsBytes.far (h : IsBytes w g l) {p : Addr} (hp : g ≠ p.block) (u : Value) : IsBytes (w.setCell p u) g l :=
  ⟨by simpa using h.1, fun j hj => ⟨by
    have : (w.setCell p u).cell? ⟨g, j, none⟩ = w.cell? ⟨g, j, none⟩ := World.cell?_of_block (Below.heap_setCell w p u g hp)
    rw [this]; exact (h.2 j hj).1, by rw [frozen_setCell]; exact (h.2 j hj).2⟩⟩
theorem IsBytes.set_ (h : IsBytes w g l) (k : Nat) (b : UInt8) : IsBytes (w.setCell ⟨g, k, none⟩ (bv b)) g (l.set k b) := by
  refine ⟨by simpa using h.1, fun j hj => ⟨?_, by rw [frozen_setCell]; exact (h.2 j (by simpa using hj)).2⟩⟩
  have hj' : j < l.length := by simpa using hj
  by_cases hk : k = j
  · subst hk
    have := World.cell?_setCell_same' w ⟨g, k, none⟩ (bv b) (by rw [(h.2 k hj').1]; rfl)
    rw [this]; simp
  · have : (w.setCell ⟨g, k, none⟩ (bv b)).cell? ⟨g, j, none⟩ = w.cell? ⟨g, j, none⟩ := World.cell?_setCell_other _ _ _ _ (by simp [hk])
    rw [this, (h.2 j hj').1]; simp [hk]
end
/-- '[]byte(s)': a new block of these bytes. -/
theorem isBytes_new (w : World) (s : ByteArray) (cap : Nat) (e : TypeId) : IsBytes (w.alloc (.cells (bytesRow s cap) e ((bytesRow s cap).size, (bytesRow s cap).size + 1))) w.heap.size s.data.toList := by
  refine ⟨by simp, fun j hj => ⟨?_, ?_⟩⟩
  · have hj' : j < s.data.size := by simpa using hj
    rw [World.cell?_alloc_mark, bytesRow_at s cap j hj']
    rfl
  · rw [World.frozen?_alloc_mark]
    have hj' : j < s.data.size := by simpa using hj
    have : j < (bytesRow s cap).size := by unfold bytesRow; rw [Array.size_append, Array.size_map]; omega
    simp only [decide_eq_false (Nat.not_le.2 this), Bool.false_and]
/-- A new row of these bytes. -/
theorem isBytes_cells (w : World) (l : List UInt8) (e : TypeId) : IsBytes (w.alloc (.cells (l.map bv).toArray e)) w.heap.size l := by
  refine ⟨by simp, fun j hj => ⟨?_, ?_⟩⟩
  · rw [World.cell?_alloc_mark]; simp [hj]
  · rw [World.frozen?_alloc_mark]; simp
/-- 'string(b[:n])' of these bytes. -/
theorem conv_bytes {P : Program} {w : World} {src e dst : TypeId} (hs : P.underlying src = some (.slice e)) (he : P.underlying e = some (.int .u8)) (hd : P.underlying dst = some .string)
    {g : Nat} {l : List UInt8} (h : IsBytes w g l) (n cap : Nat) (hn : n = l.length) : (convert src dst (.slice (some ⟨g, 0, none⟩) n cap)).run P w = .ok (.string ⟨l.toArray⟩) w := by
  subst hn
  exact run_convert_bytes_back w src dst e ⟨g, 0, none⟩ cap l hs he hd (fun j hj => by
    have : (⟨g, 0, none⟩ : Addr).add j = ⟨g, j, none⟩ := by unfold Addr.add; split <;> simp_all
    rw [this]; exact h.cell hj)
end Go.Proofs.Ythddacgdmngfhaa.byt
