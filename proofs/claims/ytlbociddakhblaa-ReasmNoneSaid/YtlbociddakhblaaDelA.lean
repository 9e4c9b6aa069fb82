/- Layer 18: nobody has streams; the statement walked. -/
import Derived.Test.YtlbociddakhblaaRows
import Derived.Test.YtlbociddakhblaaKitD
import Derived.Test.YtlbociddakhblaaKitM
import Derived.Outline
import Derived.OwnWalk
import Derived.BigQuiet
import Derived.LoopTactic
import Derived.Deep.CutBlock
import Derived.Deep.DeepCutAuto
import Derived.Deep.RegionWith
import Derived.BigRegion
import Derived.Deep.AppendLies
import Derived.Deep.RegionLaw
import Derived.Deep.RegionHeld3
import Derived.StillTailTactics
import Derived.Laws.ResultCell
namespace Go.Proofs.Ytlbociddakhblaa.del
open Go.Sort (grow)
open Go.ChangeShapes Go.WideShapes Go.ChangeAt Go.RowKit kit
set_option maxRecDepth 100000

/-- A message's cells. -/
def ms (st ss : Int) (lo : Bool) (pr : Int) (D : ByteArray) : Array Value := #[.int .i64 st, .int .i64 ss, .bool lo, .int .u32 pr, .string D]
theorem szM : (Try.prog.info? 63).map (·.size) = some 5 := by kernel_rfl
theorem many_nil (w : World) : Calls Try.prog 63 #[.pointer none] w fun e w' => e = .returned (.int .i64 0) ∧ w' = w := by
  go_enter Try.func63, Try.ntmps63
  go_wp2
  go_ret
  exact ⟨rfl, rfl⟩
theorem bytes_nil (w : World) : Calls Try.prog 64 #[.pointer none] w fun e w' => e = .returned (.int .i64 0) ∧ w' = w := by
  go_enter Try.func64, Try.ntmps64
  go_wp2
  go_ret
  exact ⟨rfl, rfl⟩
theorem ready_nil (w : World) : Calls Try.prog 65 #[.pointer none] w fun e w' => e = .returned (.int .i64 0) ∧ w' = w := by
  go_enter Try.func65, Try.ntmps65
  go_wp2
  go_ret
  exact ⟨rfl, rfl⟩
theorem grow_nil (n : Int) (w : World) : Calls Try.prog 59 #[.pointer none, .int .i64 n] w fun e w' => e = .returned (.tuple #[]) ∧ w' = w := by
  go_enter Try.func59, Try.ntmps59
  go_wp2_with fail
  refine bodyPost_ret (v := .tuple #[]) ?_ rfl ⟨rfl, rfl⟩
  simp [results]
theorem read_nil (w : World) : Calls Try.prog 60 #[.pointer none] w fun e w' => e = .returned (.tuple #[.agg (ms 0 0 false 0 ⟨#[]⟩), .bool false]) ∧ Below w.heap.size w w' := by
  go_enter Try.func60, Try.ntmps60
  go_wp2_with fail
  refine (ready_nil _).mono ?_
  rintro e w1 ⟨rfl, rfl⟩
  go_wp2
  have B := Blk.new w 63 (ms 0 0 false 0 ⟨#[]⟩)
  have bel := (Below.refl w.heap.size w).alloc (Nat.le_refl _) (.cells (ms 0 0 false 0 ⟨#[]⟩) 63)
  refine bodyPost_ret (v := .tuple #[.agg (ms 0 0 false 0 ⟨#[]⟩), .bool false]) ?_ rfl ⟨rfl, bel⟩
  rw [results_cell_tmp rfl]
  have h := run_loadVar_row (w.alloc (.cells (ms 0 0 false 0 ⟨#[]⟩) 63)) w.heap.size 63 63 _ (0, 0) _ B Try.underlying63 rfl (by kernel_rfl)
  have h2 : w.alloc (.cells (ms 0 0 false 0 ⟨#[]⟩) 63) = w.alloc (.cells #[.int .i64 0, .int .i64 0, .bool false, .int .u32 0, .string ⟨#[]⟩] 63) := rfl
  rw [h2] at h
  simp [asAddr, h]
theorem read_nil' (w : World) : Calls Try.prog 60 #[.pointer none] w fun e w' => e = .returned (.tuple #[.agg #[.int .i64 0, .int .i64 0, .bool false, .int .u32 0, .string ⟨#[]⟩], .bool false]) ∧ Below w.heap.size w w' := read_nil w
theorem put_nil (st ss pr : Int) (lo : Bool) (D : ByteArray) (w : World) : Calls Try.prog 62 #[.pointer none, .agg (ms st ss lo pr D)] w fun e w' => e = .returned (.bool false) ∧ Below w.heap.size w w' := by
  have M0 := Blk.new w 63 (ms st ss lo pr D)
  have bel := (Below.refl w.heap.size w).alloc (Nat.le_refl _) (.cells (ms st ss lo pr D) 63)
  go_enter Try.func62, Try.ntmps62
  go_wp2_with fail
  generalize w.alloc (.cells (ms st ss lo pr D) 63) = w1 at *
  have c0 : w1.cell? ⟨w.heap.size, 0, none⟩ = some (.int .i64 st) := M0.cell 0
  clear M0
  rcases (by omega : st < 0 ∨ (¬ st < 0 ∧ 0 ≤ st)) with q | ⟨q, q2⟩
  · have hd : decide (st < 0) = true := decide_eq_true q
    go_quiet ((fail))
    go_wp2_with fail
    go_ret
    exact ⟨rfl, ⟨bel.os, bel.tape, bel.output, bel.size, bel.block⟩⟩
  · have hd : decide (st < 0) = false := decide_eq_false q
    have hd2 : decide (0 ≤ st) = true := decide_eq_true q2
    go_quiet ((exact Calls.quiet_of_same (many_nil _)))
    go_wp2_with fail
    go_ret
    exact ⟨rfl, ⟨bel.os, bel.tape, bel.output, bel.size, bel.block⟩⟩
theorem zero_eql (w : World) : (binOp .eql 63 (.agg #[.int .i64 0, .int .i64 0, .bool false, .int .u32 0, .string ⟨#[]⟩]) (.agg #[.int .i64 0, .int .i64 0, .bool false, .int .u32 0, .string ⟨#[]⟩])).run Try.prog w = .ok (.bool true) w := by kernel_rfl
set_option maxHeartbeats 4000000 in
theorem none_of (awake18_any : ∀ w, Calls Try.prog 61 #[] w fun e w' => e = .returned (.bool true) ∧ Below w.heap.size w w') (st ss pr n : Int) (lo : Bool) (D : ByteArray) (w : World) :
    Calls Try.prog 12 #[.agg (ms st ss lo pr D), .int .i64 n] w fun e w' => e = .returned (.bool true) ∧ Below w.heap.size w w' := by
  have M0 := Blk.new w 63 (ms st ss lo pr D)
  have bel0 := (Below.refl w.heap.size w).alloc (Nat.le_refl _) (.cells (ms st ss lo pr D) 63)
  go_enter Try.func12, Try.ntmps12
  go_wp2_with fail
  generalize w.alloc (.cells (ms st ss lo pr D) 63) = w0 at *
  refine (grow_nil _ _).mono ?_
  rintro e w1 ⟨rfl, rfl⟩
  go_wp2_with fail
  refine (read_nil' _).mono ?_
  rintro e w1 ⟨rfl, hb1⟩
  have M1 : Blk w1 w.heap.size 63 (ms st ss lo pr D) := (hb1.block _ M0.lt).trans M0
  have bel1 := bel0.trans (hb1.mono bel0.size)
  clear M0 bel0 hb1
  go_upto_region 4 with (fail)
  have C5 : Blk (w1.alloc (.cells #[.int .i64 0, .int .i64 0, .bool false, .int .u32 0, .string ⟨#[]⟩] 63)) w1.heap.size 63 #[.int .i64 0, .int .i64 0, .bool false, .int .u32 0, .string ⟨#[]⟩] := Blk.new w1 63 _
  have bel5 := bel1.alloc bel1.size (.cells #[.int .i64 0, .int .i64 0, .bool false, .int .u32 0, .string ⟨#[]⟩] 63)
  have M5 := M1.alloc (.cells #[.int .i64 0, .int .i64 0, .bool false, .int .u32 0, .string ⟨#[]⟩] 63)
  generalize w1.alloc (.cells #[.int .i64 0, .int .i64 0, .bool false, .int .u32 0, .string ⟨#[]⟩] 63) = w5 at *
  clear M1 bel1
  go_wp2_with fail
  refine (awake18_any _).mono ?_
  rintro e w6 ⟨rfl, hb6⟩
  have M6 : Blk w6 w.heap.size 63 (ms st ss lo pr D) := (hb6.block _ M5.lt).trans M5
  have C6 : Blk w6 w1.heap.size 63 #[.int .i64 0, .int .i64 0, .bool false, .int .u32 0, .string ⟨#[]⟩] := (hb6.block _ C5.lt).trans C5
  have bel6 := bel5.trans (hb6.mono bel5.size)
  clear M5 C5 bel5 hb6
  have x0 : w6.cell? ⟨w.heap.size, 0, none⟩ = some (.int .i64 st) := M6.cell 0
  have x1 : w6.cell? ⟨w.heap.size, 1, none⟩ = some (.int .i64 ss) := M6.cell 1
  have x2 : w6.cell? ⟨w.heap.size, 2, none⟩ = some (.bool lo) := M6.cell 2
  have x3 : w6.cell? ⟨w.heap.size, 3, none⟩ = some (.int .u32 pr) := M6.cell 3
  have x4 : w6.cell? ⟨w.heap.size, 4, none⟩ = some (.string D) := M6.cell 4
  go_wp2_with fail
  clear x0 x1 x2 x3 x4 M6
  refine (put_nil st ss pr lo D _).mono ?_
  rintro e w7 ⟨rfl, hb7⟩
  have C7 : Blk w7 w1.heap.size 63 #[.int .i64 0, .int .i64 0, .bool false, .int .u32 0, .string ⟨#[]⟩] := (hb7.block _ C6.lt).trans C6
  have bel7 := bel6.trans (hb7.mono bel6.size)
  have x0 := C7.cell 0
  have x1 := C7.cell 1
  have x2 := C7.cell 2
  have x3 := C7.cell 3
  have x4 := C7.cell 4
  have hq := zero_eql
  clear C6 C7 bel6 hb7
  go_wp2_with fail
  refine (many_nil _).mono ?_
  rintro e w8 ⟨rfl, rfl⟩
  clear x0 x1 x2 x3 x4 hq
  go_wp2_with fail
  refine (bytes_nil _).mono ?_
  rintro e w8 ⟨rfl, rfl⟩
  go_wp2_with fail
  refine (ready_nil _).mono ?_
  rintro e w8 ⟨rfl, rfl⟩
  go_wp2_with fail
  go_ret
  exact ⟨rfl, bel7⟩
theorem none_open (awake18_any : ∀ w, Calls Try.prog 61 #[] w fun e w' => e = .returned (.bool true) ∧ Below w.heap.size w w') {H : Type} {enc : TypeId × Value → H} {W : World} {base : Nat} {v0 v1 : Value} {d0 d1 : DataW H} {p0 p1 : List MemPlace}
    (o0 : Value.okWide Try.prog W .any base 63 v0) (o1 : Value.okWide Try.prog W .any base 3 v1) (h0 : DataW.Trod enc Try.prog W 0 (fun _ => true) true 63 v0 d0 p0) (h1 : DataW.Trod enc Try.prog W 0 (fun _ => true) true 3 v1 d1 p1) :
    Calls Try.prog 12 #[v0, v1] W fun e w' => e = .returned (.bool true) ∧ Below W.heap.size W w' := by
  obtain ⟨n, rfl, _, _, wn⟩ := open_int Try.underlying3 o1 h1
  obtain ⟨l, rfl, hF⟩ := open_struct 4 (sh := [.int .i64, .int .i64, .bool, .int .u32, .str]) Try.underlying63 (by kernel_rfl) (by kernel_rfl) o0 h0
  obtain ⟨a, l1, rfl, _, hF⟩ := hF.int
  obtain ⟨b, l2, rfl, _, hF⟩ := hF.int
  obtain ⟨x, l3, rfl, hB⟩ := hF.bool
  obtain ⟨d, l4, rfl, _, hC⟩ := hB.int
  obtain ⟨q, l5, rfl, hq, hG⟩ := hC.str
  obtain rfl := hG.nil
  exact none_of awake18_any a b d n x q W
end Go.Proofs.Ytlbociddakhblaa.del
