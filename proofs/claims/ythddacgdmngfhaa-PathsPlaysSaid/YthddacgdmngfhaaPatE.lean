/- Layer 15: which path is used; the statement walked. -/
import Derived.Test.YthddacgdmngfhaaPatD
import Derived.StillTailTactics
namespace Go.Proofs.Ythddacgdmngfhaa.pat
open Go.Sort (grow)
open Go.ChangeShapes Go.WideShapes Go.ChangeAt Go.RowKit kit
set_option maxRecDepth 100000

theorem TwoAt.below {b0 g : Nat} {a b : Array Value} {w w' : World} (O : TwoAt b0 g a b w) (hb : Below w.heap.size w w') : TwoAt b0 g a b w' := by
  obtain ⟨h, cap, N, hne, hbh, hc, hcm, A, B⟩ := O
  exact ⟨h, cap, N.below hb N.lt, hne, hbh, hc, hcm, A.below hb A.lt, B.below hb B.lt⟩
theorem TwoAt.lt {b0 g : Nat} {a b : Array Value} {w : World} (O : TwoAt b0 g a b w) : g < w.heap.size := by obtain ⟨_, _, N, _⟩ := O; exact N.lt
theorem first_two (b0 g : Nat) (a b : Array Value) (w : World) (O : TwoAt b0 g a b w) : Calls Try.prog 122 #[.pointer (some ⟨g, 0, none⟩)] w fun e w' => e = .returned (.int .i64 0) ∧ w = w' := by
  obtain ⟨h, cap, N, _⟩ := O
  exact first_of g h 2 cap 0 (by omega) w N
theorem at0_two (b0 g : Nat) (a b s : Int) (y : Array Value) (w : World) (O : TwoAt b0 g (pth a b s) y w) : Calls Try.prog 111 #[.pointer (some ⟨g, 0, none⟩), .int .i64 0] w fun e w' => e = .returned (.agg (pth a b s)) ∧ Below w.heap.size w w' := by
  obtain ⟨h, cap, N, _, _, hc, hcm, A, B⟩ := O
  exact at_of g h 2 cap 0 0 (by omega) hc hcm (pth a b s) rfl w N A (oneP a b s)
theorem many_two (b0 g : Nat) (a b : Array Value) (w : World) (O : TwoAt b0 g a b w) : Calls Try.prog 114 #[.pointer (some ⟨g, 0, none⟩)] w fun e w' => e = .returned (.int .i64 2) ∧ w = w' := by
  obtain ⟨h, cap, N, _⟩ := O
  exact many_of g h 2 cap 0 w N
theorem use_first (b0 g : Nat) (a b : Int) (y : Array Value) (w : World) (O : TwoAt b0 g (pth a b 0) y w) : Calls Try.prog 112 #[.pointer (some ⟨g, 0, none⟩)] w fun e w' => e = .returned (.int .i64 0) ∧ Below w.heap.size w w' := by
  have hF := first_two b0 g _ _ w O
  have e2 : ∀ w, (Instr.field 113 (.agg (pth a b 0)) 2).run Try.prog w = .ok (.int .i64 0) w := fun w => by kernel_rfl
  go_enter Try.func112, Try.ntmps112
  go_wp2_with fail
  refine hF.mono ?_
  rintro e w1 ⟨rfl, rfl⟩
  go_wp2_with fail
  refine (at0_two b0 g a b 0 y _ O).mono ?_
  rintro e w2 ⟨rfl, hb2⟩
  go_wp2_with fail
  go_ret
  exact ⟨rfl, hb2⟩
theorem same_any (a b s t : Int) (w : World) : Calls Try.prog 120 #[.agg (pth a b s), .agg (pth a b t)] w fun e w' => e = .returned (.bool true) ∧ Below w.heap.size w w' := by
  have e0 : (pth a b s)[0]? = some (.int .u32 a) := rfl
  have e1 : (pth a b s)[1]? = some (.int .u32 b) := rfl
  have f0 : (pth a b t)[0]? = some (.int .u32 a) := rfl
  have f1 : (pth a b t)[1]? = some (.int .u32 b) := rfl
  have bel := ((Below.refl w.heap.size w).alloc (Nat.le_refl _) (.cells (pth a b s) 113)).alloc (by simp) (.cells (pth a b t) 113)
  go_enter Try.func120, Try.ntmps120
  go_wp2
  go_ret
  exact ⟨ret_true (by simp), bel⟩
set_option maxHeartbeats 4000000 in
theorem set_first (g b0 : Nat) (hb0 : b0 ≤ g) (a b s t : Int) (y : Array Value) (w : World) (O : TwoAt b0 g (pth a b s) y w) : Calls Try.prog 72 #[.pointer (some ⟨g, 0, none⟩), .int .i64 0, .agg (pth a b t)] w fun e w' => e = .returned (.bool true) ∧ TwoAt b0 g (pth a b t) y w' ∧ Below b0 w w' := by
  obtain ⟨h, cap, N, hne, hbh, hc, hcm, A, B⟩ := O
  have hH := fun w (N : Blk w g 214 #[.slice (some ⟨h, 0, none⟩) 2 cap, .int .i64 0]) => has_of g h 2 cap 0 0 (by omega) w N
  go_enter Try.func72, Try.ntmps72
  go_wp2_with fail
  have N1 := N.alloc (.cells (pth a b t) 113)
  have A1 := A.alloc (.cells (pth a b t) 113)
  have B1 := B.alloc (.cells (pth a b t) 113)
  have X1 := Blk.new w 113 (pth a b t)
  have bel := (Below.refl w.heap.size w).alloc (Nat.le_refl _) (.cells (pth a b t) 113)
  have hx : w.heap.size ≠ h := Nat.ne_of_gt A.lt
  have hg := N.lt
  generalize w.alloc (.cells (pth a b t) 113) = w1 at *
  have c0 : w1.cell? ⟨g, 0, none⟩ = some (.slice (some ⟨h, 0, none⟩) 2 cap) := N1.cell 0
  have a0 : w1.cell? ⟨h, 0, none⟩ = some (.int .u32 a) := A1.cell0 0 rfl
  have x0 : w1.cell? ⟨w.heap.size, 0, none⟩ = some (.int .u32 a) := X1.cell 0
  have a1 : w1.cell? ⟨h, 1, none⟩ = some (.int .u32 b) := A1.cell0 1 rfl
  have x1 : w1.cell? ⟨w.heap.size, 1, none⟩ = some (.int .u32 b) := X1.cell 1
  have a2 : w1.cell? ⟨h, 2, none⟩ = some (.int .i64 s) := A1.cell0 2 rfl
  have x2 : w1.cell? ⟨w.heap.size, 2, none⟩ = some (.int .i64 t) := X1.cell 2
  have a3 : w1.cell? ⟨h, 3, none⟩ = some (.int .i64 0) := A1.cell0 3 rfl
  have x3 : w1.cell? ⟨w.heap.size, 3, none⟩ = some (.int .i64 0) := X1.cell 3
  have a4 : w1.cell? ⟨h, 4, none⟩ = some (.int .i64 0) := A1.cell0 4 rfl
  have x4 : w1.cell? ⟨w.heap.size, 4, none⟩ = some (.int .i64 0) := X1.cell 4
  have a5 : w1.cell? ⟨h, 5, none⟩ = some (.int .i64 0) := A1.cell0 5 rfl
  have x5 : w1.cell? ⟨w.heap.size, 5, none⟩ = some (.int .i64 0) := X1.cell 5
  have a6 : w1.cell? ⟨h, 6, none⟩ = some (.int .i64 30) := A1.cell0 6 rfl
  have x6 : w1.cell? ⟨w.heap.size, 6, none⟩ = some (.int .i64 30) := X1.cell 6
  have a7 : w1.cell? ⟨h, 7, none⟩ = some (.bool false) := A1.cell0 7 rfl
  have x7 : w1.cell? ⟨w.heap.size, 7, none⟩ = some (.bool false) := X1.cell 7
  have a8 : w1.cell? ⟨h, 8, none⟩ = some (.int .i64 1800) := A1.cell0 8 rfl
  have x8 : w1.cell? ⟨w.heap.size, 8, none⟩ = some (.int .i64 1800) := X1.cell 8
  have a9 : w1.cell? ⟨h, 9, none⟩ = some (.int .i64 60000) := A1.cell0 9 rfl
  have x9 : w1.cell? ⟨w.heap.size, 9, none⟩ = some (.int .i64 60000) := X1.cell 9
  have a10 : w1.cell? ⟨h, 10, none⟩ = some (.int .i64 0) := A1.cell0 10 rfl
  have x10 : w1.cell? ⟨w.heap.size, 10, none⟩ = some (.int .i64 0) := X1.cell 10
  have a11 : w1.cell? ⟨h, 11, none⟩ = some (.int .i64 0) := A1.cell0 11 rfl
  have x11 : w1.cell? ⟨w.heap.size, 11, none⟩ = some (.int .i64 0) := X1.cell 11
  have a12 : w1.cell? ⟨h, 12, none⟩ = some (.int .i64 0) := A1.cell0 12 rfl
  have x12 : w1.cell? ⟨w.heap.size, 12, none⟩ = some (.int .i64 0) := X1.cell 12
  have a13 : w1.cell? ⟨h, 13, none⟩ = some (.int .u32 0) := A1.cell0 13 rfl
  have x13 : w1.cell? ⟨w.heap.size, 13, none⟩ = some (.int .u32 0) := X1.cell 13
  have a14 : w1.cell? ⟨h, 14, none⟩ = some (.int .i64 0) := A1.cell0 14 rfl
  have x14 : w1.cell? ⟨w.heap.size, 14, none⟩ = some (.int .i64 0) := X1.cell 14
  have hS : ∀ w0, Calls Try.prog 120 #[.agg (pth a b s), .agg (pth a b t)] w0 fun e w' => e = .returned (.bool true) ∧ Below w0.heap.size w0 w' := fun w0 => same_any a b s t w0
  simp only [pth] at hS
  go_region_law ((first | (refine step_call (by rfl) 119 Try.f119 _ _ (by rfl) Try.func119 (by kernel_rfl) (by kernel_rfl) #[.pointer (some ⟨g, 0, none⟩), .int .i64 0] (by simp [Act.eval, Act.put]) (hH _ N1.drew) ?_; rintro w2 rfl) | (refine step_callg (by rfl) 120 Try.f120 _ _ (by rfl) Try.func120 (by kernel_rfl) (by kernel_rfl) _ (by simp [Act.eval, Act.put]) (hS _) ?_; intro w3 hb3)))
  all_goals
    have N3 := N1.drew.below hb3 N1.lt
    have A3 := A1.drew.below hb3 A1.lt
    have B3 := B1.drew.below hb3 B1.lt
    have X3 := X1.drew.below hb3 X1.lt
    have bel3 : Below b0 w w3 := (bel.drew.trans (hb3.mono bel.size)).mono (by omega)
    clear a0 x0 a1 x1 a2 x2 a3 x3 a4 x4 a5 x5 a6 x6 a7 x7 a8 x8 a9 x9 a10 x10 a11 x11 a12 x12 a13 x13 a14 x14 c0 hS hH
    have c3 : w3.cell? ⟨g, 0, none⟩ = some (.slice (some ⟨h, 0, none⟩) 2 cap) := N3.cell 0
    have x0 : w3.cell? ⟨w.heap.size, 0, none⟩ = some (.int .u32 a) := X3.cell 0
    have x1 : w3.cell? ⟨w.heap.size, 1, none⟩ = some (.int .u32 b) := X3.cell 1
    have x2 : w3.cell? ⟨w.heap.size, 2, none⟩ = some (.int .i64 t) := X3.cell 2
    have x3 : w3.cell? ⟨w.heap.size, 3, none⟩ = some (.int .i64 0) := X3.cell 3
    have x4 : w3.cell? ⟨w.heap.size, 4, none⟩ = some (.int .i64 0) := X3.cell 4
    have x5 : w3.cell? ⟨w.heap.size, 5, none⟩ = some (.int .i64 0) := X3.cell 5
    have x6 : w3.cell? ⟨w.heap.size, 6, none⟩ = some (.int .i64 30) := X3.cell 6
    have x7 : w3.cell? ⟨w.heap.size, 7, none⟩ = some (.bool false) := X3.cell 7
    have x8 : w3.cell? ⟨w.heap.size, 8, none⟩ = some (.int .i64 1800) := X3.cell 8
    have x9 : w3.cell? ⟨w.heap.size, 9, none⟩ = some (.int .i64 60000) := X3.cell 9
    have x10 : w3.cell? ⟨w.heap.size, 10, none⟩ = some (.int .i64 0) := X3.cell 10
    have x11 : w3.cell? ⟨w.heap.size, 11, none⟩ = some (.int .i64 0) := X3.cell 11
    have x12 : w3.cell? ⟨w.heap.size, 12, none⟩ = some (.int .i64 0) := X3.cell 12
    have x13 : w3.cell? ⟨w.heap.size, 13, none⟩ = some (.int .u32 0) := X3.cell 13
    have x14 : w3.cell? ⟨w.heap.size, 14, none⟩ = some (.int .i64 0) := X3.cell 14
    unfold maxLen at hcm
    go_wp2_with fail
    refine wp_region_still_tail 7 (by kernel_rfl) (by kernel_rfl) ?_
    simp only [List.take_succ_cons, List.take_zero, List.drop_succ_cons, List.drop_zero]
    repeat still_step
    refine wpStill_nil ?_
    change wpList _ _ _ _ _ w3.drew
    have A4 : Cel w3.drew h 0 (pth a b s) := A3
    have N4 : Blk w3.drew g 214 #[.slice (some ⟨h, 0, none⟩) 2 cap, .int .i64 0] := N3
    have B4 : Cel w3.drew h 15 y := B3
    have bel4 : Below b0 w w3.drew := bel3.drew
    clear N3 A3 B3 X3 bel3 c3 x0 x1 x2 x3 x4 x5 x6 x7 x8 x9 x10 x11 x12 x13 x14
    generalize w3.drew = w4 at *
    have hE : TwoAt b0 g (pth a b t) y (w4.setCells h 0 (pth a b t).toList) := ⟨h, cap, blk_setCells N4 (Ne.symm hne) _ _, hne, hbh, hc, hcm, A4.setCells_same (pth a b t).toList rfl, B4.setCells_apart 0 _ (.inr (by simp [pth]))⟩
    have belE := below_setCells bel4 hbh 0 (pth a b t).toList
    go_wp2_with (refine wpList_store_at rfl 113 _ _ rfl h 0 (pth a b t) rfl rfl (pth a b s) A4 szP rfl (oneP a b t) ?_)
    go_ret
    exact ⟨rfl, hE, belE⟩
theorem next_state (b0 g : Nat) (a : Array Value) (b c : Int) (w : World) (O : TwoAt b0 g a (pth b c 0) w) : Calls Try.prog 164 #[.pointer (some ⟨g, 0, none⟩), .int .i64 0, .int .i64 1] w fun e w' => e = .returned (.int .i64 (-1)) ∧ Below w.heap.size w w' := by
  have hM := many_two b0 g _ _ w O
  obtain ⟨h, cap, N, _, _, hc, hcm, A, B⟩ := O
  unfold maxLen at hcm
  have c0 : w.cell? ⟨g, 0, none⟩ = some (.slice (some ⟨h, 0, none⟩) 2 cap) := N.cell 0
  have b2 : w.cell? ⟨h, 17, none⟩ = some (.int .i64 0) := B.cell 2 rfl
  go_enter Try.func164, Try.ntmps164
  go_wp2
  refine wp_loop_rounds 2 ?_
  rw [rounds_succ]
  go_wp2_with fail
  refine hM.mono ?_
  rintro e w1 ⟨rfl, rfl⟩
  go_wp2_with fail
  rw [rounds_succ]
  go_wp2_with fail
  refine hM.mono ?_
  rintro e w1 ⟨rfl, rfl⟩
  go_wp2_with fail
  go_ret
  exact ⟨rfl, Below.refl _ _⟩
theorem next_new (b0 g : Nat) (a : Array Value) (b c : Int) (w : World) (O : TwoAt b0 g a (pth b c 0) w) : Calls Try.prog 164 #[.pointer (some ⟨g, 0, none⟩), .int .i64 0, .int .i64 0] w fun e w' => e = .returned (.int .i64 1) ∧ Below w.heap.size w w' := by
  have hM := many_two b0 g _ _ w O
  obtain ⟨h, cap, N, _, _, hc, hcm, A, B⟩ := O
  unfold maxLen at hcm
  have c0 : w.cell? ⟨g, 0, none⟩ = some (.slice (some ⟨h, 0, none⟩) 2 cap) := N.cell 0
  have b2 : w.cell? ⟨h, 17, none⟩ = some (.int .i64 0) := B.cell 2 rfl
  go_enter Try.func164, Try.ntmps164
  go_wp2
  refine wp_loop_rounds 2 ?_
  rw [rounds_succ]
  go_wp2_with fail
  refine hM.mono ?_
  rintro e w1 ⟨rfl, rfl⟩
  go_wp2_with fail
  go_ret
  exact ⟨rfl, Below.refl _ _⟩
theorem use_second (b0 g : Nat) (a b c d : Int) (w : World) (O : TwoAt b0 g (pth a b 2) (pth c d 0) w) : Calls Try.prog 112 #[.pointer (some ⟨g, 0, none⟩)] w fun e w' => e = .returned (.int .i64 1) ∧ Below w.heap.size w w' := by
  have hF := first_two b0 g _ _ w O
  have e2 : ∀ w, (Instr.field 113 (.agg (pth a b 2)) 2).run Try.prog w = .ok (.int .i64 2) w := fun w => by kernel_rfl
  go_enter Try.func112, Try.ntmps112
  go_wp2_with fail
  refine hF.mono ?_
  rintro e w1 ⟨rfl, rfl⟩
  go_wp2_with fail
  refine (at0_two b0 g a b 2 _ _ O).mono ?_
  rintro e w2 ⟨rfl, hb2⟩
  have O2 := O.below hb2
  go_wp2_with fail
  refine (next_state b0 g _ c d _ O2).mono ?_
  rintro e w3 ⟨rfl, hb3⟩
  have O3 := O2.below hb3
  have bel3 := hb2.trans (hb3.mono hb2.size)
  go_wp2_with fail
  refine (next_new b0 g _ c d _ O3).mono ?_
  rintro e w4 ⟨rfl, hb4⟩
  go_wp2_with fail
  go_ret
  exact ⟨rfl, bel3.trans (hb4.mono bel3.size)⟩
end Go.Proofs.Ythddacgdmngfhaa.pat
