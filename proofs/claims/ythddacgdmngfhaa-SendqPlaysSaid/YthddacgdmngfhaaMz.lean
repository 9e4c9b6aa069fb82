/- Bytes that are noughts: 'make([]byte, m)', and the string of them. -/
import Derived.Test.YthddacgdmngfhaaProg
import Derived.Test.YthddacgdmngfhaaByt
import Derived.Test.YthddacgdmngfhaaKitD
namespace Go.Proofs.Ythddacgdmngfhaa.fil
open Go.Sort (grow)
open Go.ChangeShapes Go.WideShapes Go.ChangeAt Go.RowKit kit byt
set_option maxRecDepth 100000
/-- So many noughts. -/
def Zs (m : Nat) : ByteArray := ⟨(List.replicate m (0 : UInt8)).toArray⟩
theorem Zs_size (m : Nat) : (Zs m).size = m := by show (List.replicate m (0 : UInt8)).toArray.size = m; simp
/-- The world behind 'make([]byte, m)'. -/
def mz (m : Nat) (w : World) : World := w.alloc (.cells (madeCells #[Value.int .u8 0] m) 5)
theorem mz_below (m : Nat) (w : World) : Below w.heap.size w (mz m w) := (Below.refl _ _).alloc (Nat.le_refl _) _
theorem mz_bytes (m : Nat) (w : World) : IsBytes (mz m w) w.heap.size (List.replicate m 0) := by
  refine ⟨by simp [mz], fun j hj => ⟨?_, ?_⟩⟩
  · have hj' : j < m := by simpa using hj
    unfold mz
    rw [World.cell?_alloc_mark]
    simp [madeCells, hj', bv, Nat.mod_one]
  · unfold mz
    rw [World.frozen?_alloc_mark]; simp
theorem mz_run (m : Nat) (w : World) (hm : m ≤ 1000000) : (Instr.makeSlice 45 (.int .i64 m) (.int .i64 m)).run Try.prog w = .ok (.slice (some ⟨w.heap.size, 0, none⟩) m m) (mz m w) := by
  have h : (Try.prog.info? 5).map (fun i => (i.zero, i.size, i.bytes)) = some (some (.int .u8 0), 1, 1) := by kernel_rfl
  cases hi : Try.prog.info? 5 with
  | none => rw [hi] at h; cases h
  | some i =>
    rw [hi] at h
    simp only [Option.map_some, Option.some.injEq, Prod.mk.injEq] at h
    obtain ⟨h1, h2, h3⟩ := h
    have := run_make w 45 5 i (.int .u8 0) Try.underlying45 hi h1 .i64 .i64 m m (by omega) (by omega) (by rw [h3]; omega) (by omega)
    rw [this, h2]
    simp [Value.cells, mz]
theorem mz_conv (m : Nat) (w : World) : (convert 45 9 (.slice (some ⟨w.heap.size, 0, none⟩) m m)).run Try.prog (mz m w) = .ok (.string (Zs m)) (mz m w) :=
  conv_bytes Try.underlying45 Try.underlying5 Try.underlying9 (mz_bytes m w) m m (by simp)
end Go.Proofs.Ythddacgdmngfhaa.fil
