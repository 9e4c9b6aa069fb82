/- Layer 28: the statement's own example. -/
import Derived.Test.YtdocphkpeonldaaRecI
import Derived.Test.YtdocphkpeonldaaRecJ
namespace Go.Proofs.Ytdocphkpeonldaa.rec_
open Go.Sort (grow)
open Go.ChangeShapes Go.WideShapes Go.ChangeAt Go.RowKit kit oct
set_option maxRecDepth 100000

theorem ccE (h : Nat) : cc 130 5 h = #[.int .i64 130, .int .i64 0, .int .u32 5, .int .i64 0, .int .i64 0, .int .u32 0, .string ⟨#[]⟩, .int .u32 0, .int .u32 0, .int .i64 0, .int .i64 0, .slice (some ⟨h, 0, none⟩) 1 1, .slice none 0 0, .slice none 0 0, .slice none 0 0] := rfl
theorem cdE (k cap : Nat) : cd 130 5 k cap = #[.int .i64 130, .int .i64 0, .int .u32 5, .int .i64 0, .int .i64 0, .int .u32 0, .string ⟨#[]⟩, .int .u32 0, .int .u32 0, .int .i64 0, .int .i64 0, .slice (some ⟨k, 0, none⟩) 1 cap, .slice none 0 0, .slice none 0 0, .slice none 0 0] := rfl
set_option maxHeartbeats 2000000 in
theorem awake28 (w : World) : Calls Try.prog 19 #[] w fun e w' => e = .returned (.bool true) ∧ Below w.heap.size w w' := by
  have A1 := (Blk.new w 149 (st 5 9 0 0 0)).alloc (.cells (st 9 5 0 0 0) 149)
  have B1 := blk_new2 w (.cells (st 5 9 0 0 0) 149) 149 (st 9 5 0 0 0)
  have bel1 := ((Below.refl w.heap.size w).alloc (Nat.le_refl _) (.cells (st 5 9 0 0 0) 149)).alloc (by simp) (.cells (st 9 5 0 0 0) 149)
  have hz : (w.alloc (.cells (st 5 9 0 0 0) 149)).heap.size = w.heap.size + 1 := by simp
  go_enter Try.func19, Try.ntmps19
  go_wp2_with fail
  refine (new_any 5 9 _).mono ?_
  rintro e w1 ⟨rfl, rfl⟩
  go_wp2_with fail
  refine (new_any 9 5 _).mono ?_
  rintro e w2 ⟨rfl, rfl⟩
  rw [hz]
  generalize (w.alloc (.cells (st 5 9 0 0 0) 149)).alloc (.cells (st 9 5 0 0 0) 149) = w2 at *
  generalize hb : w.heap.size + 1 = b at *
  generalize ha : w.heap.size = a at *
  go_wp2_with fail
  refine (ask_one a _ A1).mono ?_
  rintro e w3 ⟨rfl, hw3⟩
  have A3 : Blk (w2.setCell ⟨a, 2, none⟩ (.int .i64 3)) a 149 (st 5 9 3 0 0) := A1.set_ 2 (.int .i64 3)
  have B3 := B1.far (p := ⟨a, 2, none⟩) (show b ≠ a by omega) (.int .i64 3)
  have bel3 := bel1.setCell (p := ⟨a, 2, none⟩) (Nat.le_refl _) (.int .i64 3)
  rw [← hw3] at A3 B3 bel3
  clear A1 B1 bel1 hw3 hz
  have hbl := B3.lt
  go_wp2_with fail
  refine (send_one a a _ A3 (Nat.le_refl _)).mono ?_
  rintro e w4 ⟨h, rfl, hh, P4, A4, k4, bl4⟩
  have B4 := k4.blk B3 hbl (by omega)
  have bel4 := bel3.trans bl4
  clear A3 B3 bel3 k4 bl4
  have hbl4 := B4.lt
  have hal4 := A4.lt
  have hpl4 := P4.lt
  rw [ccE]
  go_upto_region 4 with (fail)
  have X5 : Blk (w4.alloc (.cells #[.int .i64 130, .int .i64 0, .int .u32 5, .int .i64 0, .int .i64 0, .int .u32 0, .string ⟨#[]⟩, .int .u32 0, .int .u32 0, .int .i64 0, .int .i64 0, .slice (some ⟨h, 0, none⟩) 1 1, .slice none 0 0, .slice none 0 0, .slice none 0 0] 43)) w4.heap.size 43 (cc 130 5 h) := Blk.new w4 43 (cc 130 5 h)
  have A5 := A4.alloc (.cells #[.int .i64 130, .int .i64 0, .int .u32 5, .int .i64 0, .int .i64 0, .int .u32 0, .string ⟨#[]⟩, .int .u32 0, .int .u32 0, .int .i64 0, .int .i64 0, .slice (some ⟨h, 0, none⟩) 1 1, .slice none 0 0, .slice none 0 0, .slice none 0 0] 43)
  have B5 := B4.alloc (.cells #[.int .i64 130, .int .i64 0, .int .u32 5, .int .i64 0, .int .i64 0, .int .u32 0, .string ⟨#[]⟩, .int .u32 0, .int .u32 0, .int .i64 0, .int .i64 0, .slice (some ⟨h, 0, none⟩) 1 1, .slice none 0 0, .slice none 0 0, .slice none 0 0] 43)
  have P5 := P4.alloc (.cells #[.int .i64 130, .int .i64 0, .int .u32 5, .int .i64 0, .int .i64 0, .int .u32 0, .string ⟨#[]⟩, .int .u32 0, .int .u32 0, .int .i64 0, .int .i64 0, .slice (some ⟨h, 0, none⟩) 1 1, .slice none 0 0, .slice none 0 0, .slice none 0 0] 43)
  have bel5 := bel4.alloc (by omega) (.cells #[.int .i64 130, .int .i64 0, .int .u32 5, .int .i64 0, .int .i64 0, .int .u32 0, .string ⟨#[]⟩, .int .u32 0, .int .u32 0, .int .i64 0, .int .i64 0, .slice (some ⟨h, 0, none⟩) 1 1, .slice none 0 0, .slice none 0 0, .slice none 0 0] 43)
  clear A4 B4 P4 bel4
  generalize w4.alloc (.cells #[.int .i64 130, .int .i64 0, .int .u32 5, .int .i64 0, .int .i64 0, .int .u32 0, .string ⟨#[]⟩, .int .u32 0, .int .u32 0, .int .i64 0, .int .i64 0, .slice (some ⟨h, 0, none⟩) 1 1, .slice none 0 0, .slice none 0 0, .slice none 0 0] 43) = w5 at *
  generalize w4.heap.size = x at *
  have hal5 := A5.lt
  go_wp2_with (refine wpList_load_at rfl 43 _ rfl x 0 rfl (cc 130 5 h) _ (Cel.of_blk X5) Try.underlying43 rfl (szC _ _ _) ?_)
  refine (asked_one a b h _ B5 P5 (by omega)).mono ?_
  rintro e w6 ⟨k, cap, rfl, hk, hp1, hp2, K6, k6, bl6⟩
  have A6 := k6.blk A5 hal5 (by omega)
  have bel6 := bel5.trans bl6
  clear A5 B5 P5 X5 bel5 k6 bl6
  have hal6 := A6.lt
  rw [cdE]
  go_upto_region 5 with (fail)
  have X7 : Blk (w6.alloc (.cells #[.int .i64 130, .int .i64 0, .int .u32 5, .int .i64 0, .int .i64 0, .int .u32 0, .string ⟨#[]⟩, .int .u32 0, .int .u32 0, .int .i64 0, .int .i64 0, .slice (some ⟨k, 0, none⟩) 1 cap, .slice none 0 0, .slice none 0 0, .slice none 0 0] 43)) w6.heap.size 43 (cd 130 5 k cap) := Blk.new w6 43 (cd 130 5 k cap)
  have A7 := A6.alloc (.cells #[.int .i64 130, .int .i64 0, .int .u32 5, .int .i64 0, .int .i64 0, .int .u32 0, .string ⟨#[]⟩, .int .u32 0, .int .u32 0, .int .i64 0, .int .i64 0, .slice (some ⟨k, 0, none⟩) 1 cap, .slice none 0 0, .slice none 0 0, .slice none 0 0] 43)
  have K7 := K6.alloc (.cells #[.int .i64 130, .int .i64 0, .int .u32 5, .int .i64 0, .int .i64 0, .int .u32 0, .string ⟨#[]⟩, .int .u32 0, .int .u32 0, .int .i64 0, .int .i64 0, .slice (some ⟨k, 0, none⟩) 1 cap, .slice none 0 0, .slice none 0 0, .slice none 0 0] 43)
  have bel7 := bel6.alloc (by omega) (.cells #[.int .i64 130, .int .i64 0, .int .u32 5, .int .i64 0, .int .i64 0, .int .u32 0, .string ⟨#[]⟩, .int .u32 0, .int .u32 0, .int .i64 0, .int .i64 0, .slice (some ⟨k, 0, none⟩) 1 cap, .slice none 0 0, .slice none 0 0, .slice none 0 0] 43)
  clear A6 K6 bel6
  generalize w6.alloc (.cells #[.int .i64 130, .int .i64 0, .int .u32 5, .int .i64 0, .int .i64 0, .int .u32 0, .string ⟨#[]⟩, .int .u32 0, .int .u32 0, .int .i64 0, .int .i64 0, .slice (some ⟨k, 0, none⟩) 1 cap, .slice none 0 0, .slice none 0 0, .slice none 0 0] 43) = w7 at *
  generalize w6.heap.size = y at *
  go_wp2_with (refine wpList_load_at rfl 43 _ rfl y 0 rfl (cd 130 5 k cap) _ (Cel.of_blk X7) Try.underlying43 rfl (szD _ _ _ _) ?_)
  refine (answer_one a a k cap _ A7 K7 (by omega) (Nat.le_refl _)).mono ?_
  rintro e w8 ⟨rfl, bl8⟩
  have bel8 := bel7.trans bl8
  go_wp2_with fail
  go_ret
  exact ⟨rfl, by first | exact bel8 | (rw [ha]; exact bel8)⟩
end Go.Proofs.Ytdocphkpeonldaa.rec_
