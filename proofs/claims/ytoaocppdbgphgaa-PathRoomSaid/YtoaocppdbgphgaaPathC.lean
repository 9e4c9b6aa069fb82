/- Layer 14: errors let a path be down; the statement on a path's room. -/
import Derived.Test.YtoaocppdbgphgaaPathB
import Derived.LoopTactic
import Derived.Outline
namespace Go.Proofs.Ytoaocppdbgphgaa.path
open Go.ChangeShapes Go.WideShapes Go.ChangeAt Go.RowKit kit

theorem fld2 (a b c d e f g h i j k l m n o : Value) (w : World) : (Instr.field 35 (.agg #[a, b, c, d, e, f, g, h, i, j, k, l, m, n, o]) 2).run Try.prog w = .ok c w := by kernel_rfl
set_option maxRecDepth 100000 in
set_option maxHeartbeats 2000000 in
theorem awake_any (w : World) : Calls Try.prog 20 #[] w fun e w' => e = .returned (.bool true) ∧ Below w.heap.size w w' := by
  have hfld := fld2
  go_enter Try.func20, Try.ntmps20
  go_wp2_with (go_at_call 56; refine (new_any _).mono ?_; rintro e w1 ⟨rfl, hb⟩)
  have B0 := Blk.new w1 35 #[.int .u32 1, .int .u32 2, .int .i64 0, .int .i64 0, .int .i64 0, .int .i64 0, .int .i64 30, .bool false, .int .i64 1800, .int .i64 60000, .int .i64 0, .int .i64 0, .int .i64 0, .int .u32 0, .int .i64 0]
  have bel0 := hb.alloc hb.size (.cells #[.int .u32 1, .int .u32 2, .int .i64 0, .int .i64 0, .int .i64 0, .int .i64 0, .int .i64 30, .bool false, .int .i64 1800, .int .i64 60000, .int .i64 0, .int .i64 0, .int .i64 0, .int .u32 0, .int .i64 0] 35)
  have hg := hb.size
  generalize w1.alloc (.cells #[.int .u32 1, .int .u32 2, .int .i64 0, .int .i64 0, .int .i64 0, .int .i64 0, .int .i64 30, .bool false, .int .i64 1800, .int .i64 60000, .int .i64 0, .int .i64 0, .int .i64 0, .int .u32 0, .int .i64 0] 35) = w2 at *
  generalize w1.heap.size = g at *
  clear hb
  go_loopw [2] (fun si wr => ∃ (i : Nat) (st er : Int), i ≤ 5 ∧ si = .int .i64 i ∧ er = i ∧ (i < 5 → st = 0) ∧ (i = 5 → st = 2) ∧ Blk wr g 35 #[.int .u32 1, .int .u32 2, .int .i64 st, .int .i64 er, .int .i64 0, .int .i64 0, .int .i64 30, .bool false, .int .i64 1800, .int .i64 60000, .int .i64 0, .int .i64 0, .int .i64 0, .int .u32 0, .int .i64 0] ∧ Below w.heap.size w wr) (fun si _ => 5 - (intOf si).toNat)
  case atStart => exact ⟨0, 0, 0, by omega, rfl, rfl, fun _ => rfl, fun h => absurd h (by omega), B0, bel0⟩
  case round =>
    clear B0 bel0
    obtain ⟨i, st, er, hi, rfl, rfl, h5, h6, B, bel⟩ := hrel
    have C := fun i => B.cell i
    have hgs := B.lt
    by_cases hlt : i < 5
    · have hst := h5 hlt
      subst hst
      clear h5 h6
      go_wp2_with (go_at_call 57; refine (bad_any i _ (by omega) (by omega)).mono ?_; rintro e w5 ⟨rfl, hb5⟩; have B5 := B.below hb5 hgs; have C5 := fun i => B5.cell i; have F5 := fun i => B5.frozen i; have hz5 : g < w5.heap.size := Nat.lt_of_lt_of_le hgs hb5.size)
      have B6' := (((((((((((((((B5.set_ 0 (.int .u32 1)).set_ 1 (.int .u32 2)).set_ 2 (.int .i64 ((if (i : Int) = 4 then 2 else 0)))).set_ 3 (.int .i64 (((i : Int) + 1)))).set_ 4 (.int .i64 0)).set_ 5 (.int .i64 0)).set_ 6 (.int .i64 30)).set_ 7 (.bool false)).set_ 8 (.int .i64 1800)).set_ 9 (.int .i64 60000)).set_ 10 (.int .i64 0)).set_ 11 (.int .i64 0)).set_ 12 (.int .i64 0)).set_ 13 (.int .u32 0)).set_ 14 (.int .i64 0))
      have B6 : Blk (((((((((((((((w5.setCell ⟨g, 0, none⟩ (.int .u32 1)).setCell ⟨g, 1, none⟩ (.int .u32 2)).setCell ⟨g, 2, none⟩ (.int .i64 ((if (i : Int) = 4 then 2 else 0)))).setCell ⟨g, 3, none⟩ (.int .i64 (((i : Int) + 1)))).setCell ⟨g, 4, none⟩ (.int .i64 0)).setCell ⟨g, 5, none⟩ (.int .i64 0)).setCell ⟨g, 6, none⟩ (.int .i64 30)).setCell ⟨g, 7, none⟩ (.bool false)).setCell ⟨g, 8, none⟩ (.int .i64 1800)).setCell ⟨g, 9, none⟩ (.int .i64 60000)).setCell ⟨g, 10, none⟩ (.int .i64 0)).setCell ⟨g, 11, none⟩ (.int .i64 0)).setCell ⟨g, 12, none⟩ (.int .i64 0)).setCell ⟨g, 13, none⟩ (.int .u32 0)).setCell ⟨g, 14, none⟩ (.int .i64 0)) g 35 #[.int .u32 1, .int .u32 2, .int .i64 (if (i : Int) = 4 then 2 else 0), .int .i64 ((i : Int) + 1), .int .i64 0, .int .i64 0, .int .i64 30, .bool false, .int .i64 1800, .int .i64 60000, .int .i64 0, .int .i64 0, .int .i64 0, .int .u32 0, .int .i64 0] := by
        have e : ∀ cs : Array Value, cs = #[.int .u32 1, .int .u32 2, .int .i64 (if (i : Int) = 4 then 2 else 0), .int .i64 ((i : Int) + 1), .int .i64 0, .int .i64 0, .int .i64 30, .bool false, .int .i64 1800, .int .i64 60000, .int .i64 0, .int .i64 0, .int .i64 0, .int .u32 0, .int .i64 0] → Blk (((((((((((((((w5.setCell ⟨g, 0, none⟩ (.int .u32 1)).setCell ⟨g, 1, none⟩ (.int .u32 2)).setCell ⟨g, 2, none⟩ (.int .i64 ((if (i : Int) = 4 then 2 else 0)))).setCell ⟨g, 3, none⟩ (.int .i64 (((i : Int) + 1)))).setCell ⟨g, 4, none⟩ (.int .i64 0)).setCell ⟨g, 5, none⟩ (.int .i64 0)).setCell ⟨g, 6, none⟩ (.int .i64 30)).setCell ⟨g, 7, none⟩ (.bool false)).setCell ⟨g, 8, none⟩ (.int .i64 1800)).setCell ⟨g, 9, none⟩ (.int .i64 60000)).setCell ⟨g, 10, none⟩ (.int .i64 0)).setCell ⟨g, 11, none⟩ (.int .i64 0)).setCell ⟨g, 12, none⟩ (.int .i64 0)).setCell ⟨g, 13, none⟩ (.int .u32 0)).setCell ⟨g, 14, none⟩ (.int .i64 0)) g 35 cs → Blk (((((((((((((((w5.setCell ⟨g, 0, none⟩ (.int .u32 1)).setCell ⟨g, 1, none⟩ (.int .u32 2)).setCell ⟨g, 2, none⟩ (.int .i64 ((if (i : Int) = 4 then 2 else 0)))).setCell ⟨g, 3, none⟩ (.int .i64 (((i : Int) + 1)))).setCell ⟨g, 4, none⟩ (.int .i64 0)).setCell ⟨g, 5, none⟩ (.int .i64 0)).setCell ⟨g, 6, none⟩ (.int .i64 30)).setCell ⟨g, 7, none⟩ (.bool false)).setCell ⟨g, 8, none⟩ (.int .i64 1800)).setCell ⟨g, 9, none⟩ (.int .i64 60000)).setCell ⟨g, 10, none⟩ (.int .i64 0)).setCell ⟨g, 11, none⟩ (.int .i64 0)).setCell ⟨g, 12, none⟩ (.int .i64 0)).setCell ⟨g, 13, none⟩ (.int .u32 0)).setCell ⟨g, 14, none⟩ (.int .i64 0)) g 35 #[.int .u32 1, .int .u32 2, .int .i64 (if (i : Int) = 4 then 2 else 0), .int .i64 ((i : Int) + 1), .int .i64 0, .int .i64 0, .int .i64 30, .bool false, .int .i64 1800, .int .i64 60000, .int .i64 0, .int .i64 0, .int .i64 0, .int .u32 0, .int .i64 0] := fun cs h k => h ▸ k
        exact e _ (by simp) B6'
      have bel6 : Below w.heap.size w (((((((((((((((w5.setCell ⟨g, 0, none⟩ (.int .u32 1)).setCell ⟨g, 1, none⟩ (.int .u32 2)).setCell ⟨g, 2, none⟩ (.int .i64 ((if (i : Int) = 4 then 2 else 0)))).setCell ⟨g, 3, none⟩ (.int .i64 (((i : Int) + 1)))).setCell ⟨g, 4, none⟩ (.int .i64 0)).setCell ⟨g, 5, none⟩ (.int .i64 0)).setCell ⟨g, 6, none⟩ (.int .i64 30)).setCell ⟨g, 7, none⟩ (.bool false)).setCell ⟨g, 8, none⟩ (.int .i64 1800)).setCell ⟨g, 9, none⟩ (.int .i64 60000)).setCell ⟨g, 10, none⟩ (.int .i64 0)).setCell ⟨g, 11, none⟩ (.int .i64 0)).setCell ⟨g, 12, none⟩ (.int .i64 0)).setCell ⟨g, 13, none⟩ (.int .u32 0)).setCell ⟨g, 14, none⟩ (.int .i64 0)) := ((((((((((((((((bel.trans (hb5.mono bel.size)).setCell hg _).setCell hg _).setCell hg _).setCell hg _).setCell hg _).setCell hg _).setCell hg _).setCell hg _).setCell hg _).setCell hg _).setCell hg _).setCell hg _).setCell hg _).setCell hg _).setCell hg _)
      clear B6' B5 C5 F5 C B
      generalize (((((((((((((((w5.setCell ⟨g, 0, none⟩ (.int .u32 1)).setCell ⟨g, 1, none⟩ (.int .u32 2)).setCell ⟨g, 2, none⟩ (.int .i64 ((if (i : Int) = 4 then 2 else 0)))).setCell ⟨g, 3, none⟩ (.int .i64 (((i : Int) + 1)))).setCell ⟨g, 4, none⟩ (.int .i64 0)).setCell ⟨g, 5, none⟩ (.int .i64 0)).setCell ⟨g, 6, none⟩ (.int .i64 30)).setCell ⟨g, 7, none⟩ (.bool false)).setCell ⟨g, 8, none⟩ (.int .i64 1800)).setCell ⟨g, 9, none⟩ (.int .i64 60000)).setCell ⟨g, 10, none⟩ (.int .i64 0)).setCell ⟨g, 11, none⟩ (.int .i64 0)).setCell ⟨g, 12, none⟩ (.int .i64 0)).setCell ⟨g, 13, none⟩ (.int .u32 0)).setCell ⟨g, 14, none⟩ (.int .i64 0)) = w6 at *
      go_roundw
      case rel => exact ⟨i + 1, _, _, by omega, by go_num, by omega, fun h => if_neg (by omega), fun h => if_pos (by omega), B6, bel6⟩
      case measure => simp [intOf]; omega
    · have : i = 5 := by omega
      subst this
      have hst := h6 rfl
      subst hst
      clear h5 h6
      go_wp2_with (go_at_call 58; refine (good_any _).mono ?_; rintro e w5 ⟨rfl, hb5⟩; have B5 := B.below hb5 hgs; have C5 := fun i => B5.cell i; have hz5 : g < w5.heap.size := Nat.lt_of_lt_of_le hgs hb5.size)
      go_ret
      exact ⟨rfl, bel.trans (hb5.mono bel.size)⟩

end Go.Proofs.Ytoaocppdbgphgaa.path
