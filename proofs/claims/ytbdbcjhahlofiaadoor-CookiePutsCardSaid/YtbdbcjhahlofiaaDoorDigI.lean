/- Layer 8: digests of bytes of any length around a block: walked. -/
import Derived.Test.YtbdbcjhahlofiaaDoorDigH
import Derived.Lib.QuietBelow
import Derived.BigQuiet
namespace Go.Proofs.YtbdbcjhahlofiaaDoor.dig
open Go.ChangeShapes Go.WideShapes Go.ChangeAt Go.RowKit kit byt
open crc (ones xor_ones word)
open oct

theorem set_num {w : World} {g : Nat} {l : List UInt8} (h : IsBytes w g l) (k : Nat) (y : Int) (h0 : 0 ≤ y) (h1 : y < 256) : IsBytes (w.setCell ⟨g, k, none⟩ (.int .u8 y)) g (l.set k (UInt8.ofNat y.toNat)) := by
  have e : Value.int .u8 y = bv (UInt8.ofNat y.toNat) := by
    unfold bv
    rw [UInt8.toNat_ofNat']
    congr 1
    omega
  rw [e]
  exact h.set_ k _
theorem made_bytes (w : World) (m : Nat) (e : TypeId) : IsBytes (w.alloc (.cells (madeCells #[Value.int .u8 0] m) e)) w.heap.size (List.replicate m 0) := by
  refine ⟨by simp, fun j hj => ⟨?_, ?_⟩⟩
  · have hj' : j < m := by simpa using hj
    rw [World.cell?_alloc_mark]
    simp [madeCells, hj', bv, Nat.mod_one]
  · rw [World.frozen?_alloc_mark]; simp
theorem mkBytes (m : Nat) (w : World) (hm : m ≤ 1000000) : (Instr.makeSlice 38 (.int .i64 m) (.int .i64 m)).run Tryd.prog w = .ok (.slice (some ⟨w.heap.size, 0, none⟩) m m) (w.alloc (.cells (madeCells #[Value.int .u8 0] m) 5)) := by
  have h : (Tryd.prog.info? 5).map (fun i => (i.zero, i.size, i.bytes)) = some (some (.int .u8 0), 1, 1) := by kernel_rfl
  cases hi : Tryd.prog.info? 5 with
  | none => rw [hi] at h; cases h
  | some i =>
    rw [hi] at h
    simp only [Option.map_some, Option.some.injEq, Prod.mk.injEq] at h
    obtain ⟨h1, h2, h3⟩ := h
    have := run_make w 38 5 i (.int .u8 0) Tryd.underlying38 hi h1 .i64 .i64 m m (by omega) (by omega) (by rw [h3]; omega) (by omega)
    rw [this, h2]
    simp [Value.cells]

end Go.Proofs.YtbdbcjhahlofiaaDoor.dig
