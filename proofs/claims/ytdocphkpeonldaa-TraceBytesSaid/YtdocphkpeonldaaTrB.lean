/- Layer 36: an act's bytes, by the program. -/
import Derived.Test.YtdocphkpeonldaaTrA
import Derived.Outline
import Derived.OwnWalk
import Derived.BigQuiet
import Derived.LoopTactic
import Derived.Deep.CutBlock
import Derived.Deep.DeepCutAuto
import Derived.Deep.RegionWith
import Derived.BigRegion
import Derived.Lib.Hide
namespace Go.Proofs.Ytdocphkpeonldaa.tra
open Go.Sort (grow)
open Go.ChangeShapes Go.WideShapes Go.ChangeAt Go.RowKit kit oct
set_option maxRecDepth 100000

theorem szA (wh xa xb xc xd xe xf xh : Int) (s : ByteArray) : (Try.prog.info? 63).map (·.size) = some (#[.int .i64 wh, .int .i64 xa, .int .i64 xb, .int .i64 xc, .int .i64 xd, .int .i64 xe, .int .i64 xf, .int .i64 xh, .string s] : Array Value).size := by show _ = some 9; kernel_rfl
theorem szN (xa xb xc xd xe xf xh : Int) : (Try.prog.info? 168).map (·.size) = some (#[.int .i64 xa, .int .i64 xb, .int .i64 xc, .int .i64 xd, .int .i64 xe, .int .i64 xf, .int .i64 xh] : Array Value).size := by show _ = some 7; kernel_rfl
theorem numbers_any (wh xa xb xc xd xe xf xh : Int) (s : ByteArray) (w : World) : Calls Try.prog 96 #[.agg #[.int .i64 wh, .int .i64 xa, .int .i64 xb, .int .i64 xc, .int .i64 xd, .int .i64 xe, .int .i64 xf, .int .i64 xh, .string s]] w fun e w' => e = .returned (.agg #[.int .i64 xa, .int .i64 xb, .int .i64 xc, .int .i64 xd, .int .i64 xe, .int .i64 xf, .int .i64 xh]) ∧ Below w.heap.size w w' := by
  go_enter Try.func96, Try.ntmps96
  go_wp2_with fail
  have R : Blk ((w.alloc (.cells #[.int .i64 wh, .int .i64 xa, .int .i64 xb, .int .i64 xc, .int .i64 xd, .int .i64 xe, .int .i64 xf, .int .i64 xh, .string s] 63)).alloc (.cells #[.int .i64 xa, .int .i64 xb, .int .i64 xc, .int .i64 xd, .int .i64 xe, .int .i64 xf, .int .i64 xh] 168)) (w.heap.size + 1) 168 #[.int .i64 xa, .int .i64 xb, .int .i64 xc, .int .i64 xd, .int .i64 xe, .int .i64 xf, .int .i64 xh] := blk_new2 _ _ _ _
  exact bodyPost_ret (v := .agg #[.int .i64 xa, .int .i64 xb, .int .i64 xc, .int .i64 xd, .int .i64 xe, .int .i64 xf, .int .i64 xh]) (results_cell_at rfl _ _ (w.heap.size + 1) 0 #[.int .i64 xa, .int .i64 xb, .int .i64 xc, .int .i64 xd, .int .i64 xe, .int .i64 xf, .int .i64 xh] _ rfl (Cel.of_blk R) Try.underlying168 rfl (szN _ _ _ _ _ _ _)) rfl ⟨rfl, ((Below.refl _ _).alloc (Nat.le_refl _) _).alloc (by simp) _⟩
theorem sg_lo (u : Nat) (h : u ≤ 4294967295) : -2147483648 ≤ sg u := by unfold sg; split <;> omega
theorem sg_hi (u : Nat) : sg u ≤ 2147483647 ∨ 4294967295 < u := by unfold sg; split <;> omega
theorem sg_mod (u : Nat) (h : u ≤ 4294967295) : sg u % 4294967296 = u := by unfold sg; split <;> omega
set_option maxHeartbeats 2000000 in
theorem may36_any (wh xa xb xc xd xe xf xh : Int) (s : ByteArray) (w : World) (h0 : 0 ≤ wh) (h1 : wh ≤ 255) (hs : s.size ≤ 65535)
    (la : -2147483648 ≤ xa) (ua : xa ≤ 2147483647)
    (lb : -2147483648 ≤ xb) (ub : xb ≤ 2147483647)
    (lc : -2147483648 ≤ xc) (uc : xc ≤ 2147483647)
    (ld : -2147483648 ≤ xd) (ud : xd ≤ 2147483647)
    (le : -2147483648 ≤ xe) (ue : xe ≤ 2147483647)
    (lf : -2147483648 ≤ xf) (uf : xf ≤ 2147483647)
    (lh : -2147483648 ≤ xh) (uh : xh ≤ 2147483647)
    : Calls Try.prog 41 #[.agg #[.int .i64 wh, .int .i64 xa, .int .i64 xb, .int .i64 xc, .int .i64 xd, .int .i64 xe, .int .i64 xf, .int .i64 xh, .string s]] w fun e w' => e = .returned (.bool true) ∧ Below w.heap.size w w' := by
  have X1 := Blk.new w 63 #[.int .i64 wh, .int .i64 xa, .int .i64 xb, .int .i64 xc, .int .i64 xd, .int .i64 xe, .int .i64 xf, .int .i64 xh, .string s]
  have bel1 := (Below.refl w.heap.size w).alloc (Nat.le_refl _) (.cells #[.int .i64 wh, .int .i64 xa, .int .i64 xb, .int .i64 xc, .int .i64 xd, .int .i64 xe, .int .i64 xf, .int .i64 xh, .string s] 63)
  have hnum := fun W => numbers_any wh xa xb xc xd xe xf xh s W
  have ix0 : ∀ W, (Instr.index 168 (.agg #[.int .i64 xa, .int .i64 xb, .int .i64 xc, .int .i64 xd, .int .i64 xe, .int .i64 xf, .int .i64 xh]) (.int .i64 0)).run Try.prog W = .ok (.int .i64 xa) W := fun W => by kernel_rfl
  have ix1 : ∀ W, (Instr.index 168 (.agg #[.int .i64 xa, .int .i64 xb, .int .i64 xc, .int .i64 xd, .int .i64 xe, .int .i64 xf, .int .i64 xh]) (.int .i64 1)).run Try.prog W = .ok (.int .i64 xb) W := fun W => by kernel_rfl
  have ix2 : ∀ W, (Instr.index 168 (.agg #[.int .i64 xa, .int .i64 xb, .int .i64 xc, .int .i64 xd, .int .i64 xe, .int .i64 xf, .int .i64 xh]) (.int .i64 2)).run Try.prog W = .ok (.int .i64 xc) W := fun W => by kernel_rfl
  have ix3 : ∀ W, (Instr.index 168 (.agg #[.int .i64 xa, .int .i64 xb, .int .i64 xc, .int .i64 xd, .int .i64 xe, .int .i64 xf, .int .i64 xh]) (.int .i64 3)).run Try.prog W = .ok (.int .i64 xd) W := fun W => by kernel_rfl
  have ix4 : ∀ W, (Instr.index 168 (.agg #[.int .i64 xa, .int .i64 xb, .int .i64 xc, .int .i64 xd, .int .i64 xe, .int .i64 xf, .int .i64 xh]) (.int .i64 4)).run Try.prog W = .ok (.int .i64 xe) W := fun W => by kernel_rfl
  have ix5 : ∀ W, (Instr.index 168 (.agg #[.int .i64 xa, .int .i64 xb, .int .i64 xc, .int .i64 xd, .int .i64 xe, .int .i64 xf, .int .i64 xh]) (.int .i64 5)).run Try.prog W = .ok (.int .i64 xf) W := fun W => by kernel_rfl
  have ix6 : ∀ W, (Instr.index 168 (.agg #[.int .i64 xa, .int .i64 xb, .int .i64 xc, .int .i64 xd, .int .i64 xe, .int .i64 xf, .int .i64 xh]) (.int .i64 6)).run Try.prog W = .ok (.int .i64 xh) W := fun W => by kernel_rfl
  go_enter Try.func41, Try.ntmps41
  go_upto_region 1 with (fail)
  generalize w.alloc (.cells #[.int .i64 wh, .int .i64 xa, .int .i64 xb, .int .i64 xc, .int .i64 xd, .int .i64 xe, .int .i64 xf, .int .i64 xh, .string s] 63) = w1 at *
  go_wp2_with (refine wpList_load_at rfl 63 _ rfl w.heap.size 0 rfl #[.int .i64 wh, .int .i64 xa, .int .i64 xb, .int .i64 xc, .int .i64 xd, .int .i64 xe, .int .i64 xf, .int .i64 xh, .string s] _ (Cel.of_blk X1) Try.underlying63 rfl (szA _ _ _ _ _ _ _ _ _) ?_)
  refine (hnum _).mono ?_
  rintro e w2 ⟨rfl, hb2⟩
  have X2 := X1.below hb2 X1.lt
  have bel2 := bel1.trans (hb2.mono bel1.size)
  clear X1 bel1 hb2 hnum
  have y0 : w2.cell? ⟨w.heap.size, 0, none⟩ = some (.int .i64 wh) := X2.cell 0
  have y8 : w2.cell? ⟨w.heap.size, 8, none⟩ = some (.string s) := X2.cell 8
  go_wp2_with fail
  refine wp_loop_rounds 8 ?_
  iterate 7
    rw [rounds_succ]
    go_wp2_with fail
  rw [rounds_succ]
  go_wp2_with fail
  go_ret
  exact ⟨ret_bool (by first | rfl | (simp; omega)), bel2⟩
def actS (wh : Nat) (ua ub uc ud ue uf uh : Nat) (s : ByteArray) : ByteArray := p1 wh ++ p4 ua ++ p4 ub ++ p4 uc ++ p4 ud ++ p4 ue ++ p4 uf ++ p4 uh ++ p2 s.size ++ s
end Go.Proofs.Ytdocphkpeonldaa.tra
