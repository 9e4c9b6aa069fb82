/- Layer 40: what one piece is of an object. -/
import Derived.Test.YthddacgdmngfhaaFilA
import Derived.Test.YthddacgdmngfhaaByt
import Derived.Laws.IdiomCopy
import Derived.Maps.RangeWalk
import Derived.Maps.RangeRun
namespace Go.Proofs.Ythddacgdmngfhaa.fil
open Go.Sort (grow)
open Go.ChangeShapes Go.WideShapes Go.ChangeAt Go.RowKit kit oct byt
set_option maxRecDepth 100000

/-- 'copy(b[o:], s)' of a string that fits. -/
theorem run_copy_at {P : Program} (w : World) (dT sT ty elem : TypeId) (g o cap : Nat) (s : ByteArray) (dl : Nat) (hu : P.underlying dT = some (.slice elem)) (hz : (P.info? elem).map (·.size) = some 1) (hs : s.size ≤ dl)
    {l : List UInt8} (I : IsBytes w g l) (hl : o + dl ≤ l.length) :
    (Builtin.copy_ #[dT, sT] ty #[.slice (some ⟨g, o, none⟩) dl cap, .string s]).run P w = .ok (.int .i64 s.size) (w.setCells g o (s.data.toList.map bv)) := by
  have hst := run_storeCells_cells (P := P) g o (s.data.toList.map bv) 0 w (fun j hj => by
      have hj' : j < s.size := by simpa using hj
      rw [Nat.add_zero, I.cell (by omega)]; rfl) (fun j hj => by
      have hj' : j < s.size := by simpa using hj
      rw [Nat.add_zero]
      exact I.free (by omega)) (by
      intro v hv
      obtain ⟨b, _, rfl⟩ := List.mem_map.1 hv
      rfl)
  cases hi : P.info? elem with
  | none => rw [hi] at hz; cases hz
  | some i =>
    have hmin : Nat.min s.size dl = s.size := Nat.min_eq_left hs
    have hc : List.take s.size (s.data.toList.map fun b => Value.int .u8 (b.toNat : Int)) = s.data.toList.map bv := by
      rw [List.take_of_length_le (by simp)]
      rfl
    rw [Nat.add_zero] at hst
    simp [Builtin.copy_, run_underlying hu, Builtin.lenOf, sizeOf, typeInfo, hi, Builtin.firstCells, hmin, goInt, hc, hst]
/-- Bytes laid over others. -/
def laid (l m : List UInt8) (o : Nat) : List UInt8 := l.take o ++ m ++ l.drop (o + m.length)
theorem laid_len (l m : List UInt8) (o : Nat) (h : o + m.length ≤ l.length) : (laid l m o).length = l.length := by simp [laid]; omega
theorem laid_lo (l m : List UInt8) (o j : Nat) (h : o + m.length ≤ l.length) (h1 : j < o) : (laid l m o)[j]? = l[j]? := by
  have e : (l.take o).length = o := by simp; omega
  unfold laid
  rw [List.append_assoc, List.getElem?_append_left (by omega), List.getElem?_take_of_lt h1]
theorem laid_mid (l m : List UInt8) (o j : Nat) (h : o + m.length ≤ l.length) (h1 : o ≤ j) (h2 : j < o + m.length) : (laid l m o)[j]? = m[j - o]? := by
  have e : (l.take o).length = o := by simp; omega
  unfold laid
  rw [List.append_assoc, List.getElem?_append_right (by omega), e, List.getElem?_append_left (by omega)]
theorem laid_hi (l m : List UInt8) (o j : Nat) (h : o + m.length ≤ l.length) (h2 : o + m.length ≤ j) : (laid l m o)[j]? = l[j]? := by
  have e : (l.take o ++ m).length = o + m.length := by simp; omega
  unfold laid
  rw [List.getElem?_append_right (by omega), e, List.getElem?_drop, show o + m.length + (j - (o + m.length)) = j by omega]
theorem get_of {l m : List UInt8} {i j : Nat} (hi : i < l.length) (hj : j < m.length) (h : m[j]? = l[i]?) : l[i] = m[j] := by
  rw [List.getElem?_eq_getElem hi, List.getElem?_eq_getElem hj] at h
  exact (Option.some.inj h).symm
theorem set_cells_at {w : World} {g : Nat} {l : List UInt8} (I : IsBytes w g l) (m : List UInt8) (o : Nat) (h : o + m.length ≤ l.length) : IsBytes (w.setCells g o (m.map bv)) g (laid l m o) := by
  have hin := World.cell?_setCells_in g (m.map bv) o w (fun j hj => by
    have hj' : j < m.length := by simpa using hj
    rw [I.cell (by omega)]; rfl)
  refine ⟨by rw [size_setCells (w := w)]; exact I.lt, fun j hj => ⟨?_, ?_⟩⟩
  · have hjl : j < l.length := by rw [laid_len l m o h] at hj; exact hj
    by_cases h1 : j < o
    · rw [World.cell?_setCells_out g (m.map bv) o w ⟨g, j, none⟩ (fun _ _ => .inl h1), I.cell hjl, get_of hjl hj (laid_lo l m o j h h1)]
    · by_cases h2 : j < o + m.length
      · have := hin (j - o) (by simp; omega)
        rw [show o + (j - o) = j by omega] at this
        rw [this, List.getElem_map, get_of (by omega) hj (laid_mid l m o j h (by omega) h2)]
      · rw [World.cell?_setCells_out g (m.map bv) o w ⟨g, j, none⟩ (fun _ _ => .inr (by simp; omega)), I.cell hjl, get_of hjl hj (laid_hi l m o j h (by omega))]
  · rw [World.frozen?_setCells]
    exact I.free (by rw [laid_len l m o h] at hj; exact hj)
theorem infoB : (Try.prog.info? 5).map (fun i => (i.zero, i.size, i.bytes)) = some (some (.int .u8 0), 1, 1) := by kernel_rfl
/-- A row of noughts. -/
theorem noughts_of {w : World} {b g n : Nat} {t : TypeId} (h : w.ownsRow b t 1 (.slice (some ⟨g, 0, none⟩) n n) n (madeCells #[.int .u8 0] (n * 1)).toList) : IsBytes w g (List.replicate n 0) := by
  have C := Cel.of_owns h
  rw [Nat.mul_one, toList_madeCells_one] at C
  refine ⟨C.1, fun j hj => ?_⟩
  have hj' : j < n := by simpa using hj
  have := C.2 j (.int .u8 0) (by simp [hj'])
  rw [Nat.zero_add] at this
  refine ⟨?_, this.2⟩
  rw [this.1]
  simp [bv]
theorem uMP : Try.prog.underlying 180 = some (.map 3 177) := by kernel_rfl
/-- What an object's bytes are by one piece. -/
def whl (n o : Nat) (d : ByteArray) : ByteArray := ⟨(laid (List.replicate n 0) d.data.toList o).toArray⟩
theorem whl_all (d : ByteArray) : whl d.size 0 d = d := by
  unfold whl laid
  apply ByteArray.ext
  apply Array.toList_inj.mp
  simp
end Go.Proofs.Ythddacgdmngfhaa.fil
