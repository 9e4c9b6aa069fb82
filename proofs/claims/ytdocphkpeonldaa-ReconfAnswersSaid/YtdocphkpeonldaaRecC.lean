/- Layer 28: a request is sent. -/
import Derived.Test.YtdocphkpeonldaaRecB
import Derived.Deep.RegionLaw
namespace Go.Proofs.Ytdocphkpeonldaa.rec_
open Go.ChangeShapes Go.WideShapes Go.ChangeAt Go.RowKit kit oct
set_option maxRecDepth 100000

/-- A struct stored, as one step of a region that draws its order. -/
theorem step_store_at {P : Program} {ops : Array Oper} {o : Oper} {a : Act} {w : World} {K : Act → World → Prop} {Q : Exit → Act → World → Prop} {E : Prop}
    (hg : o.guard = none) (ty : TypeId) (x y : Operand) (ho : o.op = .store ty x y) (h off : Nat) (cs : Array Value) (hx : a.eval x = .pointer (some ⟨h, off, none⟩)) (hy : a.eval y = .agg cs)
    (old : Array Value) (C : Cel w h off old) (hi : (P.info? ty).map (·.size) = some cs.size) (hs : old.size = cs.size) (h1 : cs.all (·.oneCell') = true) (k : K (a.put o.dst undef) (w.setCells h off cs.toList)) :
    if Region.wanted o (yielded ops a.tmps) = true then Oper.wp P o a w K Q else E := by
  have hw : Region.wanted o (yielded ops a.tmps) = true := by simp [Region.wanted, hg]
  rw [if_pos hw]
  unfold Oper.wp execOp
  simp only [ho, hx, hy, Instr.storeAt, Instr.sureAddr, Sem.run_bind, Sem.run_pure, Result.andThen_ok, run_storeVar_at ty C hi hs h1]
  exact k
/-- A chunk of one parameter that lies at a place; no chunk. -/
def cc (i id : Int) (g : Nat) : Array Value := #[.int .i64 i, .int .i64 0, .int .u32 id, .int .i64 0, .int .i64 0, .int .u32 0, .string ⟨#[]⟩, .int .u32 0, .int .u32 0, .int .i64 0, .int .i64 0, .slice (some ⟨g, 0, none⟩) 1 1, .slice none 0 0, .slice none 0 0, .slice none 0 0]
def c0 : Array Value := #[.int .i64 0, .int .i64 0, .int .u32 0, .int .i64 0, .int .i64 0, .int .u32 0, .string ⟨#[]⟩, .int .u32 0, .int .u32 0, .int .i64 0, .int .i64 0, .slice none 0 0, .slice none 0 0, .slice none 0 0, .slice none 0 0]
theorem szC (i id : Int) (g : Nat) : (Try.prog.info? 43).map (·.size) = some (cc i id g).size := by show _ = some 15; kernel_rfl
theorem cc_one (i id : Int) (g : Nat) : (cc i id g).all (·.oneCell') = true := by kernel_rfl
theorem chunkOf_any (id t : Int) (s : ByteArray) (w : World) : Calls Try.prog 81 #[.int .u32 id, .agg #[.int .i64 t, .string s]] w fun e w' => e = .returned (.agg (cc 130 id (w.heap.size + 2))) ∧ Blk w' (w.heap.size + 2) 23 #[.int .i64 t, .string s] ∧ Below w.heap.size w w' := by
  have P1 := (Blk.new w 23 #[.int .i64 t, .string s]).alloc (.cells c0 43)
  have R1 := blk_new2 w (.cells #[.int .i64 t, .string s] 23) 43 c0
  have bel1 := ((Below.refl w.heap.size w).alloc (Nat.le_refl _) (.cells #[.int .i64 t, .string s] 23)).alloc (by simp) (.cells c0 43)
  have hsz : ((w.alloc (.cells #[.int .i64 t, .string s] 23)).alloc (.cells c0 43)).heap.size = w.heap.size + 2 := by simp
  go_enter Try.func81, Try.ntmps81
  go_upto_region 1 with (fail)
  rw [show (w.alloc (.cells #[.int .i64 t, .string s] 23)).alloc (.cells #[.int .i64 0, .int .i64 0, .int .u32 0, .int .i64 0, .int .i64 0, .int .u32 0, .string ⟨#[]⟩, .int .u32 0, .int .u32 0, .int .i64 0, .int .i64 0, .slice none 0 0, .slice none 0 0, .slice none 0 0, .slice none 0 0] 43) = (w.alloc (.cells #[.int .i64 t, .string s] 23)).alloc (.cells c0 43) from rfl]
  generalize (w.alloc (.cells #[.int .i64 t, .string s] 23)).alloc (.cells c0 43) = w1 at *
  have hx0 : w1.cell? ⟨w.heap.size, 0, none⟩ = some (.int .i64 t) := P1.cell 0
  have hx1 : w1.cell? ⟨w.heap.size, 1, none⟩ = some (.string s) := P1.cell 1
  have G2 := Blk.new w1 23 #[.int .i64 t, .string s]
  have R2 := R1.alloc (.cells #[.int .i64 t, .string s] 23)
  have bel2 := bel1.alloc (by omega) (.cells #[.int .i64 t, .string s] 23)
  have Z := (Cel.of_blk R2).setCells_same (cc 130 id (w.heap.size + 2)).toList rfl
  have G3 := blk_setCells (h := w.heap.size + 1) G2 (by omega) 0 (cc 130 id (w.heap.size + 2)).toList
  have bel3 := below_setCells bel2 (show w.heap.size ≤ w.heap.size + 1 by omega) 0 (cc 130 id (w.heap.size + 2)).toList
  rw [hsz] at G3
  go_wp2_with (refine wpList_store_at rfl 43 _ _ rfl (w.heap.size + 1) 0 (cc 130 id (w.heap.size + 2)) rfl (by rw [← hsz]; rfl) c0 (Cel.of_blk R2) (szC _ _ _) rfl (cc_one _ _ _) ?_)
  exact bodyPost_ret (v := .agg (cc 130 id (w.heap.size + 2))) (results_cell_at rfl _ _ (w.heap.size + 1) 0 (cc 130 id (w.heap.size + 2)) _ rfl (Z.congr rfl) Try.underlying43 rfl (szC _ _ _)) rfl ⟨rfl, G3, bel3⟩
end Go.Proofs.Ytdocphkpeonldaa.rec_
