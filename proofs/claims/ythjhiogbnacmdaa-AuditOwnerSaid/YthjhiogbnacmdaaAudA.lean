/- Layer 38: the keys of entries. -/
import Derived.Test.YthjhiogbnacmdaaRows
import Derived.Test.YthjhiogbnacmdaaKitN
import Derived.Test.YthjhiogbnacmdaaKitD
namespace Go.Proofs.Ythjhiogbnacmdaa.aud
open Go.ChangeShapes Go.WideShapes Go.ChangeAt Go.RowKit kit
open Go.WideMaps (KeyLaw)
set_option maxRecDepth 100000

theorem laidOut : laidOutB Try.prog = true := by kernel_rfl
theorem keyLaw : KeyLaw Try.prog 93 := deep_law_laid laidOut (m := 3) (by decide) (of_decide_eq_true (by kernel_rfl)) (by kernel_rfl) (by kernel_rfl)
/-- A key's value. -/
def ky (c d b i : Int) : Value := .agg #[.int .u32 c, .int .i64 d, .int .i64 b, .int .u32 i]
theorem ky_inj {c d b i c' d' b' i' : Int} (h : ky c d b i = ky c' d' b' i') : c = c' ∧ d = d' ∧ b = b' ∧ i = i' := by
  simpa [ky] using h
theorem ky_key {c d b i : Int} (wc : (Lit.int .u32 c).wf = true) (wd : (Lit.int .i64 d).wf = true) (wb : (Lit.int .i64 b).wf = true) (wi : (Lit.int .u32 i).wf = true) : ∃ l, keyOf Try.prog 93 (ky c d b i) = some l := by
  have s0 : Try.prog.cellsOf 93 = 4 := by kernel_rfl
  have s1 : Try.prog.cellsOf 28 = 1 := by kernel_rfl
  have s2 : Try.prog.cellsOf 3 = 1 := by kernel_rfl
  have s3 : Try.prog.cellsOf 23 = 1 := by kernel_rfl
  have hk : ∀ n, Try.prog.keyLits (n + 2) 93 [.int .u32 c, .int .i64 d, .int .i64 b, .int .u32 i] = some [.int .u32 c, .int .i64 d, .int .i64 b, .int .u32 i] := fun n => by
    simp [Program.keyLits, Try.underlying93, Try.underlying28, Try.underlying3, Try.underlying23, s0, s1, s2, s3, wc, wd, wb, wi]
  have ht : 0 < Try.prog.types.size := of_decide_eq_true (by kernel_rfl)
  obtain ⟨n, hn⟩ : ∃ n, Try.prog.types.size + 1 = n + 2 := ⟨Try.prog.types.size - 1, by omega⟩
  have hf : (Try.prog.keyType 93 && (ky c d b i).formed Try.prog 93) = true := by kernel_rfl
  unfold keyOf
  rw [Try.underlying93]
  simp only [hf, hn, if_true]
  rw [show (ky c d b i).cells.toList = [.int .u32 c, .int .i64 d, .int .i64 b, .int .u32 i] from rfl, hk n]
  exact ⟨_, rfl⟩
/-- An entry's cells; its key. -/
def er (e : Int × Int × Int × Int × Int × Int × Int) : Array Value := #[.int .u32 e.1, .int .i64 e.2.1, .int .u32 e.2.2.1, .int .i64 e.2.2.2.1, .int .u32 e.2.2.2.2.1, .int .u32 e.2.2.2.2.2.1, .int .i64 e.2.2.2.2.2.2]
def ek (e : Int × Int × Int × Int × Int × Int × Int) : Value := ky e.2.2.1 e.2.2.2.1 e.2.1 e.2.2.2.2.1
end Go.Proofs.Ythjhiogbnacmdaa.aud
