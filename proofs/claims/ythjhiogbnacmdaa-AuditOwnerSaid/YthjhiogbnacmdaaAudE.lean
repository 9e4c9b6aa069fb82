/- Layer 38: an entry brought near, as the statement does. -/
import Derived.Test.YthjhiogbnacmdaaAudD
import Derived.OpenShut
import Derived.WalkKit
namespace Go.Proofs.Ythjhiogbnacmdaa.aud
open Go.Sort (grow)
open Go.ChangeShapes Go.WideShapes Go.ChangeAt Go.RowKit kit
set_option maxRecDepth 100000

def nr (e : Ent) : Ent := ((bits .and .u32 e.1 3 + 1) % 4294967296, bits .and .i64 e.2.1 1, (bits .and .u32 e.2.2.1 1 + 9) % 4294967296, bits .and .i64 e.2.2.2.1 1, bits .and .u32 e.2.2.2.2.1 3, bits .and .u32 e.2.2.2.2.2.1 3, e.2.2.2.2.2.2)
theorem wf_mod (z : Int) : (Lit.int .u32 (z % 4294967296)).wf = true := by
  have h1 : 0 ≤ z % 4294967296 := by omega
  have h2 : z % 4294967296 ≤ 4294967295 := by omega
  generalize z % 4294967296 = y at *
  exact WalkArith.wf_u32 (by omega)
theorem nr_wf (e : Ent) : WfE (nr e) := by
  obtain ⟨a, b, c, d, i, o, s⟩ := e
  have h1 := wf_mod (bits .and .u32 c 1 + 9)
  have h2 := wf_bits .and .i64 d 1
  have h3 := wf_bits .and .i64 b 1
  have h4 := wf_bits .and .u32 i 3
  unfold nr
  constructor <;> dsimp only <;> assumption
theorem near_fn (e : Ent) (w : World) : Calls Try.prog 8 #[.agg (er e)] w fun x w' => x = .returned (.agg (er (nr e))) ∧ Below w.heap.size w w' := by
  obtain ⟨a, b, c, d, i, o, s⟩ := e
  unfold er nr
  dsimp only
  go_enter Try.func8, Try.ntmps8
  go_wp2_with fail
  generalize (bits BinOp.and IntKind.u32 a 3 + 1) % 4294967296 = a'
  generalize bits BinOp.and IntKind.i64 b 1 = b'
  generalize (bits BinOp.and IntKind.u32 c 1 + 9) % 4294967296 = c'
  generalize bits BinOp.and IntKind.i64 d 1 = d'
  generalize bits BinOp.and IntKind.u32 i 3 = i'
  generalize bits BinOp.and IntKind.u32 o 3 = o'
  have R : Blk ((w.alloc (.cells #[.int .u32 a, .int .i64 b, .int .u32 c, .int .i64 d, .int .u32 i, .int .u32 o, .int .i64 s] 30)).alloc (.cells #[.int .u32 a', .int .i64 b', .int .u32 c', .int .i64 d', .int .u32 i', .int .u32 o', .int .i64 s] 30)) (w.heap.size + 1) 30 #[.int .u32 a', .int .i64 b', .int .u32 c', .int .i64 d', .int .u32 i', .int .u32 o', .int .i64 s] := blk_new2 _ _ _ _
  exact bodyPost_ret (v := .agg #[.int .u32 a', .int .i64 b', .int .u32 c', .int .i64 d', .int .u32 i', .int .u32 o', .int .i64 s]) (results_cell_at rfl _ _ (w.heap.size + 1) 0 #[.int .u32 a', .int .i64 b', .int .u32 c', .int .i64 d', .int .u32 i', .int .u32 o', .int .i64 s] _ rfl (Cel.of_blk R) Try.underlying30 rfl (szE _ _ _ _ _ _ _)) rfl ⟨rfl, ((Below.refl _ _).alloc (Nat.le_refl _) _).alloc (by simp) _⟩
end Go.Proofs.Ythjhiogbnacmdaa.aud
