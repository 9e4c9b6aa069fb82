/- Layer 28: an answer is taken, of any state. -/
import Derived.Test.YtdocphkpeonldaaRecO
import Derived.Test.YtdocphkpeonldaaRecP
namespace Go.Proofs.Ytdocphkpeonldaa.rec_
open Go.Sort (grow)
open Go.ChangeShapes Go.WideShapes Go.ChangeAt Go.RowKit kit oct
set_option maxRecDepth 100000

set_option maxHeartbeats 2000000 in
theorem answer_no (b0 g k cap a id : Nat) (b m t x : Int) (w : World) (h : t = 0 ∨ id ≠ a) (B : Blk w g 149 (st a b m t x)) (hg : b0 ≤ g) :
    Calls Try.prog 26 #[.pointer (some ⟨g, 0, none⟩), .agg (cd 130 id k cap)] w fun e w' => e = .returned (.tuple #[.int .i64 0, .bool false]) ∧ Blk w' g 149 (st a b m t x) ∧ Below b0 w w' := by
  have hgw := B.lt
  have X1 := Blk.new w 43 (cd 130 id k cap)
  have B1 := B.alloc (.cells (cd 130 id k cap) 43)
  have bel1 := (Below.refl b0 w).alloc (by omega) (.cells (cd 130 id k cap) 43)
  go_enter Try.func26, Try.ntmps26
  go_upto_region 1 with (fail)
  generalize w.alloc (.cells (cd 130 id k cap) 43) = w1 at *
  generalize hx : w.heap.size = y at *
  have x0 : w1.cell? ⟨y, 0, none⟩ = some (.int .i64 130) := X1.cell 0
  have x2 : w1.cell? ⟨y, 2, none⟩ = some (.int .u32 id) := X1.cell 2
  have s0 : w1.cell? ⟨g, 0, none⟩ = some (.int .u32 a) := B1.cell 0
  by_cases ht : t = 0
  · subst ht
    go_quiet ((exact Calls.quiet_of_same (times_of g a b m 0 x _ B1)))
    have B2 : Blk (w1.drewN nq) g 149 (st a b m 0 x) := B1
    have bel2 : Below b0 w (w1.drewN nq) := ⟨bel1.os, bel1.tape, bel1.output, bel1.size, bel1.block⟩
    go_wp2_with fail
    go_ret2
    exact ⟨rfl, B2, bel2⟩
  · have ht' : (t == 0) = false := by simpa using ht
    have hne : ((id : Int) == (a : Int)) = false := by simp; omega
    go_quiet ((exact Calls.quiet_of_same (times_of g a b m t x _ B1)))
    have B2 : Blk (w1.drewN nq) g 149 (st a b m t x) := B1
    have bel2 : Below b0 w (w1.drewN nq) := ⟨bel1.os, bel1.tape, bel1.output, bel1.size, bel1.block⟩
    go_wp2_with fail
    go_ret2
    exact ⟨rfl, B2, bel2⟩
set_option maxHeartbeats 2000000 in
theorem answer_yes (b0 g k cap a wh : Nat) (b m t x m' a' : Int) (w : World) (ha : a ≤ 4294967295) (hwh : wh = 1 ∨ wh = 2) (ht : 0 < t) (hm' : m' = if wh = 1 then m else 0) (ha' : IntKind.u32.wrap ((a : Int) + 1) = a')
    (B : Blk w g 149 (st a b m t x)) (K : Cel w k 0 #[.int .i64 16, .string (rS a wh)]) (hkg : k ≠ g) (hg : b0 ≤ g) :
    Calls Try.prog 26 #[.pointer (some ⟨g, 0, none⟩), .agg (cd 130 a k cap)] w fun e w' => e = .returned (.tuple #[.int .i64 m', .bool true]) ∧ Blk w' g 149 (st a' b 0 0 0) ∧ Below b0 w w' := by
  have hM : ∀ w, Calls Try.prog 17 #[.agg #[.int .i64 16, .string (rS a wh)]] w fun e w' => e = .returned (.tuple #[.int .u32 a, .int .i64 wh, .bool true]) ∧ Below w.heap.size w w' := fun w => by
    have := asResult_any 16 (rS a wh) w (by rw [rS_size]; unfold maxLen; omega)
    rw [isR_rS a wh ha (by omega), (rS_all a wh ha (by omega)).1, (rS_all a wh ha (by omega)).2, show decide (wh = 1 ∨ wh = 2) = true from decide_eq_true hwh] at this
    exact this
  have hgw := B.lt
  have X1 := Blk.new w 43 (cd 130 a k cap)
  have B1 := B.alloc (.cells (cd 130 a k cap) 43)
  have K1 := K.alloc (.cells (cd 130 a k cap) 43)
  have bel1 := (Below.refl b0 w).alloc (by omega) (.cells (cd 130 a k cap) 43)
  have ht0 : (t == 0) = false := by simp; omega
  go_enter Try.func26, Try.ntmps26
  go_upto_region 1 with (fail)
  generalize w.alloc (.cells (cd 130 a k cap) 43) = w1 at *
  have hxg : w.heap.size ≠ g := by omega
  generalize hx : w.heap.size = y at *
  have x0 : w1.cell? ⟨y, 0, none⟩ = some (.int .i64 130) := X1.cell 0
  have x2 : w1.cell? ⟨y, 2, none⟩ = some (.int .u32 a) := X1.cell 2
  have s0 : w1.cell? ⟨g, 0, none⟩ = some (.int .u32 a) := B1.cell 0
  have s3 : w1.cell? ⟨g, 3, none⟩ = some (.int .i64 t) := B1.cell 3
  go_quiet ((exact Calls.quiet_of_same (times_of g a b m t x _ B1)))
  have B2 : Blk (w1.drewN nq) g 149 (st a b m t x) := B1
  have X2 : Blk (w1.drewN nq) y 43 (cd 130 a k cap) := X1
  have K2 : Cel (w1.drewN nq) k 0 #[.int .i64 16, .string (rS a wh)] := K1
  have bel2 : Below b0 w (w1.drewN nq) := ⟨bel1.os, bel1.tape, bel1.output, bel1.size, bel1.block⟩
  clear B1 X1 K1 bel1 x0 x2 s0 s3 B K
  generalize w1.drewN nq = w2 at *
  have x11 : w2.cell? ⟨y, 11, none⟩ = some (.slice (some ⟨k, 0, none⟩) 1 cap) := X2.cell 11
  have y0 : w2.cell? ⟨k, 0, none⟩ = some (.int .i64 16) := K2.cell0 0 rfl
  have y1 : w2.cell? ⟨k, 1, none⟩ = some (.string (rS a wh)) := K2.cell0 1 rfl
  have hgl := B2.lt
  generalize hS : rS a wh = S at *
  go_wp2_with fail
  refine wp_loop_rounds 2 ?_
  rw [rounds_succ]
  go_wp2_with fail
  refine (hM _).mono ?_
  rintro e w3 ⟨rfl, hb3⟩
  have B3 := (B2.alloc (.cells #[.int .i64 16, .string S] 23)).below hb3 (by simp; omega)
  have bel3 := (bel2.alloc (by omega) (.cells #[.int .i64 16, .string S] 23)).trans (hb3.mono (by simp; omega))
  clear B2 X2 K2 bel2 x11 y0 y1 hb3
  have z0 : w3.cell? ⟨g, 0, none⟩ = some (.int .u32 a) := B3.cell 0
  have z0f : w3.frozen? ⟨g, 0, none⟩ = false := B3.frozen 0
  have z2 : w3.cell? ⟨g, 2, none⟩ = some (.int .i64 m) := B3.cell 2
  have z2f : w3.frozen? ⟨g, 2, none⟩ = false := B3.frozen 2
  have z3 : w3.cell? ⟨g, 3, none⟩ = some (.int .i64 t) := B3.cell 3
  have z3f : w3.frozen? ⟨g, 3, none⟩ = false := B3.frozen 3
  have z4 : w3.cell? ⟨g, 4, none⟩ = some (.int .i64 x) := B3.cell 4
  have z4f : w3.frozen? ⟨g, 4, none⟩ = false := B3.frozen 4
  have B4 : Blk ((((w3.setCell ⟨g, 0, none⟩ (.int .u32 a')).setCell ⟨g, 2, none⟩ (.int .i64 0)).setCell ⟨g, 3, none⟩ (.int .i64 0)).setCell ⟨g, 4, none⟩ (.int .i64 0)) g 149 (st a' b 0 0 0) := (((B3.set_ 0 (.int .u32 a')).set_ 2 (.int .i64 0)).set_ 3 (.int .i64 0)).set_ 4 (.int .i64 0)
  have bel4 := (((bel3.setCell (p := ⟨g, 0, none⟩) hg (.int .u32 a')).setCell (p := ⟨g, 2, none⟩) hg (.int .i64 0)).setCell (p := ⟨g, 3, none⟩) hg (.int .i64 0)).setCell (p := ⟨g, 4, none⟩) hg (.int .i64 0)
  rcases hwh with rfl | rfl
  · rw [if_pos rfl] at hm'
    subst hm'
    go_wp2_with fail
    go_ret2
    exact ⟨rfl, B4, bel4⟩
  · rw [if_neg (by decide)] at hm'
    subst hm'
    go_wp2_with fail
    go_ret2
    exact ⟨rfl, B4, bel4⟩
end Go.Proofs.Ytdocphkpeonldaa.rec_
