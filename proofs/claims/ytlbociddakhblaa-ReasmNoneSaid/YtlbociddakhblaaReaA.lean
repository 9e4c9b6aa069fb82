/- Layer 17: nobody has parts; the statement walked. -/
import Derived.Test.YtlbociddakhblaaDelA
namespace Go.Proofs.Ytlbociddakhblaa.rea
open Go.Sort (grow)
open Go.ChangeShapes Go.WideShapes Go.ChangeAt Go.RowKit kit
open del (ms szM zero_eql)
set_option maxRecDepth 100000

theorem len_nil (w : World) : Calls Try.prog 57 #[.pointer none] w fun e w' => e = .returned (.int .i64 0) ∧ w' = w := by
  go_enter Try.func57, Try.ntmps57
  go_wp2
  go_ret
  exact ⟨rfl, rfl⟩
theorem bytes_nil (w : World) : Calls Try.prog 58 #[.pointer none] w fun e w' => e = .returned (.int .i64 0) ∧ w' = w := by
  go_enter Try.func58, Try.ntmps58
  go_wp2
  go_ret
  exact ⟨rfl, rfl⟩
theorem add_nil (cs : Array Value) (w : World) : Calls Try.prog 55 #[.pointer none, .agg cs] w fun e w' => e = .returned (.tuple #[.agg (ms 0 0 false 0 ⟨#[]⟩), .bool false]) ∧ Below w.heap.size w w' := by
  go_enter Try.func55, Try.ntmps55
  go_wp2
  have B : Blk ((w.alloc (.cells cs 71)).alloc (.cells (ms 0 0 false 0 ⟨#[]⟩) 63)) (w.heap.size + 1) 63 (ms 0 0 false 0 ⟨#[]⟩) := blk_new2 _ _ _ _
  have bel := ((Below.refl w.heap.size w).alloc (Nat.le_refl _) (.cells cs 71)).alloc (by simp) (.cells (ms 0 0 false 0 ⟨#[]⟩) 63)
  refine bodyPost_ret (v := .tuple #[.agg (ms 0 0 false 0 ⟨#[]⟩), .bool false]) ?_ rfl ⟨rfl, bel⟩
  rw [results_cell_tmp rfl]
  have h := run_loadVar_row ((w.alloc (.cells cs 71)).alloc (.cells (ms 0 0 false 0 ⟨#[]⟩) 63)) (w.heap.size + 1) 63 63 _ (0, 0) _ B Try.underlying63 rfl (by kernel_rfl)
  have h2 : (w.alloc (.cells cs 71)).alloc (.cells (ms 0 0 false 0 ⟨#[]⟩) 63) = (w.alloc (.cells cs 71)).alloc (.cells #[.int .i64 0, .int .i64 0, .bool false, .int .u32 0, .string ⟨#[]⟩] 63) := rfl
  rw [h2] at h
  simp [asAddr, h]
theorem add_nil' (cs : Array Value) (w : World) : Calls Try.prog 55 #[.pointer none, .agg cs] w fun e w' => e = .returned (.tuple #[.agg #[.int .i64 0, .int .i64 0, .bool false, .int .u32 0, .string ⟨#[]⟩], .bool false]) ∧ Below w.heap.size w w' := add_nil cs w
set_option maxHeartbeats 4000000 in
theorem none_of (awake17_any : ∀ w, Calls Try.prog 56 #[] w fun e w' => e = .returned (.bool true) ∧ Below w.heap.size w w') (cs : Array Value) (hs : cs.size = 15) (w : World) :
    Calls Try.prog 11 #[.agg cs] w fun e w' => e = .returned (.bool true) ∧ Below w.heap.size w w' := by
  have M0 := Blk.new w 71 cs
  have bel0 := (Below.refl w.heap.size w).alloc (Nat.le_refl _) (.cells cs 71)
  have sz : (Try.prog.info? 71).map (·.size) = some cs.size := by rw [hs]; kernel_rfl
  go_enter Try.func11, Try.ntmps11
  go_upto_region 2 with (fail)
  generalize w.alloc (.cells cs 71) = w0 at *
  go_wp2_with (refine wpList_load_at rfl 71 _ rfl w.heap.size 0 rfl cs _ (Cel.of_blk M0) Try.underlying71 rfl sz ?_)
  refine (add_nil' cs _).mono ?_
  rintro e w1 ⟨rfl, hb1⟩
  have bel1 := bel0.trans (hb1.mono bel0.size)
  clear M0 bel0 hb1 sz
  go_upto_region 3 with (fail)
  have C5 : Blk (w1.alloc (.cells #[.int .i64 0, .int .i64 0, .bool false, .int .u32 0, .string ⟨#[]⟩] 63)) w1.heap.size 63 #[.int .i64 0, .int .i64 0, .bool false, .int .u32 0, .string ⟨#[]⟩] := Blk.new w1 63 _
  have bel5 := bel1.alloc bel1.size (.cells #[.int .i64 0, .int .i64 0, .bool false, .int .u32 0, .string ⟨#[]⟩] 63)
  generalize w1.alloc (.cells #[.int .i64 0, .int .i64 0, .bool false, .int .u32 0, .string ⟨#[]⟩] 63) = w5 at *
  clear bel1
  go_wp2_with fail
  refine (awake17_any _).mono ?_
  rintro e w6 ⟨rfl, hb6⟩
  have C6 : Blk w6 w1.heap.size 63 #[.int .i64 0, .int .i64 0, .bool false, .int .u32 0, .string ⟨#[]⟩] := (hb6.block _ C5.lt).trans C5
  have bel6 := bel5.trans (hb6.mono bel5.size)
  clear C5 bel5 hb6
  have x0 := C6.cell 0
  have x1 := C6.cell 1
  have x2 := C6.cell 2
  have x3 := C6.cell 3
  have x4 := C6.cell 4
  have hq := zero_eql
  clear C6
  go_wp2_with fail
  refine (len_nil _).mono ?_
  rintro e w8 ⟨rfl, rfl⟩
  clear x0 x1 x2 x3 x4 hq
  go_wp2_with fail
  refine (bytes_nil _).mono ?_
  rintro e w8 ⟨rfl, rfl⟩
  go_wp2_with fail
  go_ret
  exact ⟨rfl, bel6⟩
theorem none_open (awake17_any : ∀ w, Calls Try.prog 56 #[] w fun e w' => e = .returned (.bool true) ∧ Below w.heap.size w w') {H : Type} {enc : TypeId × Value → H} {W : World} {base : Nat} {v0 : Value} {d0 : DataW H} {p0 : List MemPlace}
    (o0 : Value.okWide Try.prog W .any base 71 v0) (h0 : DataW.Trod enc Try.prog W 0 (fun _ => true) true 71 v0 d0 p0) :
    Calls Try.prog 11 #[v0] W fun e w' => e = .returned (.bool true) ∧ Below W.heap.size W w' := by
  obtain ⟨l, rfl, hF⟩ := open_struct 4 (sh := [.int .i64, .int .i64, .int .u32, .int .i64, .int .i64, .int .u32, .str, .int .u32, .int .u32, .int .i64, .int .i64, .other 66, .other 67, .other 68, .other 69]) Try.underlying71 (by kernel_rfl) (by kernel_rfl) o0 h0
  have hl := FlatOK.length _ _ _ _ _ _ hF
  exact none_of awake17_any l.toArray (by simpa using hl) W
end Go.Proofs.Ytlbociddakhblaa.rea
