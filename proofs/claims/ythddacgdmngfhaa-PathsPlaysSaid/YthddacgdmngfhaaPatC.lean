/- Layer 15: a second path. -/
import Derived.Test.YthddacgdmngfhaaPatB
namespace Go.Proofs.Ythddacgdmngfhaa.pat
open Go.Sort (grow)
open Go.ChangeShapes Go.WideShapes Go.ChangeAt Go.RowKit kit
set_option maxRecDepth 100000

theorem cl_find (p q : Nat) (w : World) (P : Blk w p 109 #[.int .u32 1]) (Q : Blk w q 109 #[.int .u32 3]) : Calls Try.prog 166 #[.agg (pth 1 2 0), .pointer (some ⟨p, 0, none⟩), .pointer (some ⟨q, 0, none⟩)] w fun e w' => e = .returned (.bool false) ∧ Below w.heap.size w w' := by
  have P1 := P.alloc (.cells (pth 1 2 0) 113)
  have Q1 := Q.alloc (.cells (pth 1 2 0) 113)
  have bel := (Below.refl w.heap.size w).alloc (Nat.le_refl _) (.cells (pth 1 2 0) 113)
  have e0 : (pth 1 2 0)[0]? = some (.int .u32 1) := rfl
  have e1 : (pth 1 2 0)[1]? = some (.int .u32 2) := rfl
  have p0 : (w.alloc (.cells (pth 1 2 0) 113)).cell? ⟨p, 0, none⟩ = some (.int .u32 1) := P1.cell 0
  have q0 : (w.alloc (.cells (pth 1 2 0) 113)).cell? ⟨q, 0, none⟩ = some (.int .u32 3) := Q1.cell 0
  clear P1 Q1 P Q
  go_enter Try.func166, Try.ntmps166
  go_wp2
  go_ret
  exact ⟨rfl, bel⟩
theorem idx_other (h p q : Nat) (w : World) (X : Blk w h 113 (pth 1 2 0)) (P : Blk w p 109 #[.int .u32 1]) (Q : Blk w q 109 #[.int .u32 3]) :
    Calls Try.prog 182 #[.slice (some ⟨h, 0, none⟩) 1 1, .func (.func 166) #[] #[.pointer (some ⟨p, 0, none⟩), .pointer (some ⟨q, 0, none⟩)]] w fun e w' => e = .returned (.int .i64 (-1)) ∧ Below w.heap.size w w' := by
  go_enter Try.func182, Try.ntmps182
  go_wp2
  refine wp_loop_rounds 2 ?_
  rw [rounds_succ]
  go_wp2_with (refine wpList_load_at rfl 113 _ rfl h 0 rfl (pth 1 2 0) _ (Cel.of_blk X) Try.underlying113 rfl szP ?_)
  refine (cl_find p q _ P Q).mono ?_
  rintro e w1 ⟨rfl, hb1⟩
  go_wp2_with fail
  rw [rounds_succ]
  go_wp2_with fail
  go_ret
  exact ⟨rfl, hb1⟩
theorem find_func (g h p q : Nat) (w : World) (N : Blk w g 214 #[.slice (some ⟨h, 0, none⟩) 1 1, .int .i64 0]) (X : Blk w h 113 (pth 1 2 0)) (P : Blk w p 109 #[.int .u32 1]) (Q : Blk w q 109 #[.int .u32 3]) :
    Calls Try.prog 165 #[.pointer (some ⟨g, 0, none⟩), .func (.func 166) #[] #[.pointer (some ⟨p, 0, none⟩), .pointer (some ⟨q, 0, none⟩)]] w fun e w' => e = .returned (.int .i64 (-1)) ∧ Below w.heap.size w w' := by
  have c0 : w.cell? ⟨g, 0, none⟩ = some (.slice (some ⟨h, 0, none⟩) 1 1) := N.cell 0
  go_enter Try.func165, Try.ntmps165
  go_wp2_with fail
  refine (idx_other h p q _ X P Q).mono ?_
  rintro e w1 ⟨rfl, hb⟩
  go_wp2_with fail
  go_ret
  exact ⟨rfl, hb⟩
theorem find_other (g h : Nat) (w : World) (N : Blk w g 214 #[.slice (some ⟨h, 0, none⟩) 1 1, .int .i64 0]) (X : Blk w h 113 (pth 1 2 0)) : Calls Try.prog 113 #[.pointer (some ⟨g, 0, none⟩), .int .u32 1, .int .u32 3] w fun e w' => e = .returned (.int .i64 (-1)) ∧ Below w.heap.size w w' := by
  have N2 := (N.alloc (.cells #[.int .u32 1] 109)).alloc (.cells #[.int .u32 3] 109)
  have X2 := (X.alloc (.cells #[.int .u32 1] 109)).alloc (.cells #[.int .u32 3] 109)
  have P2 : Blk ((w.alloc (.cells #[.int .u32 1] 109)).alloc (.cells #[.int .u32 3] 109)) w.heap.size 109 #[.int .u32 1] := (Blk.new _ _ _).alloc _
  have Q2 : Blk ((w.alloc (.cells #[.int .u32 1] 109)).alloc (.cells #[.int .u32 3] 109)) (w.heap.size + 1) 109 #[.int .u32 3] := blk_new2 _ _ _ _
  have bel := ((Below.refl w.heap.size w).alloc (Nat.le_refl _) (.cells #[.int .u32 1] 109)).alloc (by simp) (.cells #[.int .u32 3] 109)
  go_enter Try.func113, Try.ntmps113
  go_wp2_with fail
  have hF : Calls Try.prog 165 #[.pointer (some ⟨g, 0, none⟩), .func (.func 166) #[] #[.pointer (some ⟨w.heap.size, 0, none⟩), .pointer (some ⟨w.heap.size + 1, 0, none⟩)]] _ _ := find_func g h _ _ _ N2 X2 P2 Q2
  refine hF.mono ?_
  rintro e w1 ⟨rfl, hb⟩
  go_wp2_with fail
  go_ret
  exact ⟨rfl, bel.trans (hb.mono bel.size)⟩
end Go.Proofs.Ythddacgdmngfhaa.pat
