/- Layer 11: a new table; what is added to it. -/
import Derived.Test.YtlbociddakhblaaNatA
import Derived.LoopTactic
import Derived.Outline
import Derived.Deep.CutBlock
import Derived.Deep.DeepCutAuto
import Derived.Deep.RegionWith
import Derived.BigRegion
namespace Go.Proofs.Ytlbociddakhblaa.nat
open Go.ChangeShapes Go.WideShapes Go.ChangeAt Go.RowKit kit
set_option maxRecDepth 100000

theorem endsOf_any (a b c d i o s : Int) (w : World) : Calls Try.prog 131 #[.agg (en a b c d i o s)] w fun e w' => e = .returned (.agg #[.int .u32 c, .int .i64 d, .int .i64 b]) ∧ Below w.heap.size w w' := by
  go_enter Try.func131, Try.ntmps131
  go_wp2_with fail
  exact bodyPost_ret (v := .agg #[.int .u32 c, .int .i64 d, .int .i64 b]) (by simp [results, Try.results131, go_sem] <;> rfl) rfl ⟨rfl, by repeat (first | exact Below.refl _ _ | (refine Below.alloc ?_ (by simp; try omega) _) | (refine Below.setCell ?_ (by simp) _) | (refine Below.drew ?_))⟩
theorem keyOf_any (a b c d i o s : Int) (w : World) : Calls Try.prog 127 #[.agg (en a b c d i o s)] w fun e w' => e = .returned (.agg #[.int .u32 c, .int .i64 d, .int .i64 b, .int .u32 i]) ∧ Below w.heap.size w w' := by
  go_enter Try.func127, Try.ntmps127
  go_wp2_with fail
  have N1 : Blk ((w.alloc (.cells (en a b c d i o s) 58)).alloc (.cells #[.int .u32 0, .int .i64 0, .int .i64 0, .int .u32 0] 189)) w.heap.size 58 (en a b c d i o s) := (Blk.new _ _ _).alloc _
  have N2 := blk_new2 w (.cells (en a b c d i o s) 58) 189 #[.int .u32 0, .int .i64 0, .int .i64 0, .int .u32 0]
  have bel := ((Below.refl w.heap.size w).alloc (Nat.le_refl _) (.cells (en a b c d i o s) 58)).alloc (by simp) (.cells #[.int .u32 0, .int .i64 0, .int .i64 0, .int .u32 0] 189)
  have hzz : ((w.alloc (.cells (en a b c d i o s) 58)).alloc (.cells #[.int .u32 0, .int .i64 0, .int .i64 0, .int .u32 0] 189)).heap.size = w.heap.size + 2 := by simp
  generalize (w.alloc (.cells (en a b c d i o s) 58)).alloc (.cells #[.int .u32 0, .int .i64 0, .int .i64 0, .int .u32 0] 189) = w0 at *
  have C := fun i => N1.cell i
  have C2 := fun i => N2.cell i
  have F2 := fun i => N2.frozen i
  go_region_with (go_at_call 131; refine (endsOf_any a b c d i o s _).mono ?_; rintro e w1 ⟨rfl, hb1⟩; have M1 := (Blk.drew N1).below hb1 N1.lt; have M2 := (Blk.drew N2).below hb1 N2.lt; have D := fun i => M1.cell i; have D2 := fun i => M2.cell i; have G2 := fun i => M2.frozen i)
  all_goals
    have bel1 := bel.drew.trans (hb1.mono bel.size)
    have hlt := M2.lt
    go_wp2_with fail
    exact bodyPost_ret (v := .agg #[.int .u32 c, .int .i64 d, .int .i64 b, .int .u32 i]) (by simp [results, Try.results127, go_sem, D2, G2, hlt] <;> rfl) rfl ⟨rfl, ((((bel1.setCell (by simp) _).setCell (by simp) _).setCell (by simp) _).setCell (by simp) _)⟩
theorem new_none (n : Int) (w : World) (h : n ≤ 0) : Calls Try.prog 77 #[.int .i64 n] w fun e w' => e = .returned (.pointer (some ⟨w.heap.size, 0, none⟩)) ∧ w' = w.alloc (.cells #[.int .i64 0, .slice none 0 0] 184) := by
  have h1 : min n 256 = n := by omega
  have h2 : max 0 n = 0 := by omega
  go_enter Try.func77, Try.ntmps77
  go_wp2_with fail
  go_ret
  exact ⟨rfl, rfl⟩
theorem new_3 (w : World) : Calls Try.prog 77 #[.int .i64 3] w fun e w' => e = .returned (.pointer (some ⟨w.heap.size, 0, none⟩)) ∧ w' = w.alloc (.cells #[.int .i64 3, .slice none 0 0] 184) := by
  go_enter Try.func77, Try.ntmps77
  go_wp2_with fail
  go_ret
  exact ⟨rfl, rfl⟩
theorem new_5 (w : World) : Calls Try.prog 77 #[.int .i64 5] w fun e w' => e = .returned (.pointer (some ⟨w.heap.size, 0, none⟩)) ∧ w' = w.alloc (.cells #[.int .i64 5, .slice none 0 0] 184) := by
  go_enter Try.func77, Try.ntmps77
  go_wp2_with fail
  go_ret
  exact ⟨rfl, rfl⟩
theorem idx_nil (v : Value) (w : World) : Calls Try.prog 157 #[.slice none 0 0, v] w fun e w' => e = .returned (.int .i64 (-1)) ∧ Below w.heap.size w w' := by
  go_enter Try.func157, Try.ntmps157
  go_wp2
  refine wp_loop_rounds 1 ?_
  rw [rounds_succ]
  go_wp2
  go_ret
  exact ⟨rfl, Below.refl _ _⟩
theorem find_fresh (g : Nat) (m : Int) (v : Value) (w : World) (B : Blk w g 184 #[.int .i64 m, .slice none 0 0]) : Calls Try.prog 125 #[.pointer (some ⟨g, 0, none⟩), v] w fun e w' => e = .returned (.int .i64 (-1)) ∧ Below w.heap.size w w' := by
  have C := fun i => B.cell i
  go_enter Try.func125, Try.ntmps125
  go_wp2_with fail
  refine (idx_nil _ _).mono ?_
  rintro e w1 ⟨rfl, hb1⟩
  go_wp2_with fail
  go_ret
  exact ⟨rfl, hb1⟩
theorem len_fresh (g : Nat) (m : Int) (w : World) (B : Blk w g 184 #[.int .i64 m, .slice none 0 0]) : Calls Try.prog 80 #[.pointer (some ⟨g, 0, none⟩)] w fun e w' => e = .returned (.int .i64 0) ∧ Below w.heap.size w w' := by
  have C := fun i => B.cell i
  go_enter Try.func80, Try.ntmps80
  go_wp2_with fail
  go_ret
  exact ⟨rfl, Below.refl _ _⟩
theorem has0_fresh (g : Nat) (m : Int) (w : World) (B : Blk w g 184 #[.int .i64 m, .slice none 0 0]) : Calls Try.prog 124 #[.pointer (some ⟨g, 0, none⟩), .int .i64 0] w fun e w' => e = .returned (.bool false) ∧ Below w.heap.size w w' := by
  have hl := fun w B => len_fresh g m w B
  go_enter Try.func124, Try.ntmps124
  go_wp2_with fail
  refine (hl _ B).mono ?_
  rintro e w1 ⟨rfl, hb1⟩
  go_wp2_with fail
  go_ret
  exact ⟨rfl, hb1⟩
theorem at0_fresh (g : Nat) (m : Int) (w : World) (B : Blk w g 184 #[.int .i64 m, .slice none 0 0]) : Calls Try.prog 85 #[.pointer (some ⟨g, 0, none⟩), .int .i64 0] w fun e w' => e = .returned (.agg (en 0 0 0 0 0 0 0)) ∧ Below w.heap.size w w' := by
  have hl := fun w B => has0_fresh g m w B
  go_enter Try.func85, Try.ntmps85
  go_wp2_with fail
  refine (hl _ (B.alloc _)).mono ?_
  rintro e w1 ⟨rfl, hb1⟩
  have B1 := (Blk.new _ _ _).below hb1 (by simp)
  have bel1 : Below w.heap.size w w1 := ((Below.refl _ _).alloc (Nat.le_refl _) _).trans (hb1.mono (by simp))
  have C := fun i => B1.cell i
  have F := fun i => B1.frozen i
  have hz1 := B1.lt
  go_wp2_with fail
  exact bodyPost_ret (v := .agg (en 0 0 0 0 0 0 0)) (by simp [results, Try.results85, go_sem, C, F, hz1] <;> rfl) rfl ⟨rfl, (((((((bel1.setCell (Nat.le_refl _) _).setCell (Nat.le_refl _) _).setCell (Nat.le_refl _) _).setCell (Nat.le_refl _) _).setCell (Nat.le_refl _) _).setCell (Nat.le_refl _) _).setCell (Nat.le_refl _) _)⟩
theorem add_full (g : Nat) (a b c d i o s : Int) (w : World) (hi : (i == 0) = false) (B : Blk w g 184 #[.int .i64 0, .slice none 0 0]) : Calls Try.prog 79 #[.pointer (some ⟨g, 0, none⟩), .agg (en a b c d i o s)] w fun e w' => e = .returned (.int .i64 6) ∧ Below w.heap.size w w' := by
  have C0 := fun i => B.cell i
  go_enter Try.func79, Try.ntmps79
  go_wp2_with fail
  refine (find_fresh g 0 _ _ (B.alloc _)).mono ?_
  rintro e w1 ⟨rfl, hb1⟩
  have B1 := (B.alloc (.cells (en a b c d i o s) 58)).below hb1 (by simp; have := B.lt; omega)
  have bel1 : Below w.heap.size w w1 := ((Below.refl _ _).alloc (Nat.le_refl _) _).trans (hb1.mono (by simp))
  have C := fun i => B1.cell i
  go_wp2_with fail
  go_region
  all_goals
    go_wp2_with fail
    go_ret
    exact ⟨rfl, bel1.drew⟩
theorem add_bad (g : Nat) (m : Int) (w : World) (B : Blk w g 184 #[.int .i64 m, .slice none 0 0]) : Calls Try.prog 79 #[.pointer (some ⟨g, 0, none⟩), .agg (en 0 0 0 0 0 0 0)] w fun e w' => e = .returned (.int .i64 1) ∧ Below w.heap.size w w' := by
  go_enter Try.func79, Try.ntmps79
  go_wp2_with fail
  go_ret
  exact ⟨rfl, (Below.refl _ _).alloc (Nat.le_refl _) _⟩
end Go.Proofs.Ytlbociddakhblaa.nat
