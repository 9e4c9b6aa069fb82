/- Layer 15: a second path. -/
import Derived.Test.YtlbociddakhblaaPatB
namespace Go.Proofs.Ytlbociddakhblaa.pat
open Go.Sort (grow)
open Go.ChangeShapes Go.WideShapes Go.ChangeAt Go.RowKit kit
set_option maxRecDepth 100000

theorem cl_find (p q : Nat) (w : World) (P : Blk w p 23 #[.int .u32 1]) (Q : Blk w q 23 #[.int .u32 3]) : Calls Try.prog 98 #[.agg (pth 1 2 0), .pointer (some ⟨p, 0, none⟩), .pointer (some ⟨q, 0, none⟩)] w fun e w' => e = .returned (.bool false) ∧ Below w.heap.size w w' := by
  have P1 := P.alloc (.cells (pth 1 2 0) 81)
  have Q1 := Q.alloc (.cells (pth 1 2 0) 81)
  have bel := (Below.refl w.heap.size w).alloc (Nat.le_refl _) (.cells (pth 1 2 0) 81)
  have e0 : (pth 1 2 0)[0]? = some (.int .u32 1) := rfl
  have e1 : (pth 1 2 0)[1]? = some (.int .u32 2) := rfl
  have p0 : (w.alloc (.cells (pth 1 2 0) 81)).cell? ⟨p, 0, none⟩ = some (.int .u32 1) := P1.cell 0
  have q0 : (w.alloc (.cells (pth 1 2 0) 81)).cell? ⟨q, 0, none⟩ = some (.int .u32 3) := Q1.cell 0
  clear P1 Q1 P Q
  go_enter Try.func98, Try.ntmps98
  go_wp2
  go_ret
  exact ⟨rfl, bel⟩
theorem idx_other (h p q : Nat) (w : World) (X : Blk w h 81 (pth 1 2 0)) (P : Blk w p 23 #[.int .u32 1]) (Q : Blk w q 23 #[.int .u32 3]) :
    Calls Try.prog 141 #[.slice (some ⟨h, 0, none⟩) 1 1, .func (.func 98) #[] #[.pointer (some ⟨p, 0, none⟩), .pointer (some ⟨q, 0, none⟩)]] w fun e w' => e = .returned (.int .i64 (-1)) ∧ Below w.heap.size w w' := by
  go_enter Try.func141, Try.ntmps141
  go_wp2
  refine wp_loop_rounds 2 ?_
  rw [rounds_succ]
  go_wp2_with (refine wpList_load_at rfl 81 _ rfl h 0 rfl (pth 1 2 0) _ (Cel.of_blk X) Try.underlying81 rfl szP ?_)
  refine (cl_find p q _ P Q).mono ?_
  rintro e w1 ⟨rfl, hb1⟩
  go_wp2_with fail
  rw [rounds_succ]
  go_wp2_with fail
  go_ret
  exact ⟨rfl, hb1⟩
theorem find_func (g h p q : Nat) (w : World) (N : Blk w g 137 #[.slice (some ⟨h, 0, none⟩) 1 1, .int .i64 0]) (X : Blk w h 81 (pth 1 2 0)) (P : Blk w p 23 #[.int .u32 1]) (Q : Blk w q 23 #[.int .u32 3]) :
    Calls Try.prog 97 #[.pointer (some ⟨g, 0, none⟩), .func (.func 98) #[] #[.pointer (some ⟨p, 0, none⟩), .pointer (some ⟨q, 0, none⟩)]] w fun e w' => e = .returned (.int .i64 (-1)) ∧ Below w.heap.size w w' := by
  have c0 : w.cell? ⟨g, 0, none⟩ = some (.slice (some ⟨h, 0, none⟩) 1 1) := N.cell 0
  go_enter Try.func97, Try.ntmps97
  go_wp2_with fail
  refine (idx_other h p q _ X P Q).mono ?_
  rintro e w1 ⟨rfl, hb⟩
  go_wp2_with fail
  go_ret
  exact ⟨rfl, hb⟩
theorem find_other (g h : Nat) (w : World) (N : Blk w g 137 #[.slice (some ⟨h, 0, none⟩) 1 1, .int .i64 0]) (X : Blk w h 81 (pth 1 2 0)) : Calls Try.prog 38 #[.pointer (some ⟨g, 0, none⟩), .int .u32 1, .int .u32 3] w fun e w' => e = .returned (.int .i64 (-1)) ∧ Below w.heap.size w w' := by
  have N2 := (N.alloc (.cells #[.int .u32 1] 23)).alloc (.cells #[.int .u32 3] 23)
  have X2 := (X.alloc (.cells #[.int .u32 1] 23)).alloc (.cells #[.int .u32 3] 23)
  have P2 : Blk ((w.alloc (.cells #[.int .u32 1] 23)).alloc (.cells #[.int .u32 3] 23)) w.heap.size 23 #[.int .u32 1] := (Blk.new _ _ _).alloc _
  have Q2 : Blk ((w.alloc (.cells #[.int .u32 1] 23)).alloc (.cells #[.int .u32 3] 23)) (w.heap.size + 1) 23 #[.int .u32 3] := blk_new2 _ _ _ _
  have bel := ((Below.refl w.heap.size w).alloc (Nat.le_refl _) (.cells #[.int .u32 1] 23)).alloc (by simp) (.cells #[.int .u32 3] 23)
  go_enter Try.func38, Try.ntmps38
  go_wp2_with fail
  have hF : Calls Try.prog 97 #[.pointer (some ⟨g, 0, none⟩), .func (.func 98) #[] #[.pointer (some ⟨w.heap.size, 0, none⟩), .pointer (some ⟨w.heap.size + 1, 0, none⟩)]] _ _ := find_func g h _ _ _ N2 X2 P2 Q2
  refine hF.mono ?_
  rintro e w1 ⟨rfl, hb⟩
  go_wp2_with fail
  go_ret
  exact ⟨rfl, bel.trans (hb.mono bel.size)⟩
end Go.Proofs.Ytlbociddakhblaa.pat
