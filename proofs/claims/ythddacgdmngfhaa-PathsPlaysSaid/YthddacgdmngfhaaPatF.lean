/- Layer 15: of no paths nothing comes; the statement walked. -/
import Derived.Test.YthddacgdmngfhaaPatE
namespace Go.Proofs.Ythddacgdmngfhaa.pat
open Go.Sort (grow)
open Go.ChangeShapes Go.WideShapes Go.ChangeAt Go.RowKit kit
set_option maxRecDepth 100000

theorem awake15_any (w : World) : Calls Try.prog 66 #[] w fun e w' => e = .returned (.bool true) ∧ Below w.heap.size w w' := by
  go_enter Try.func66, Try.ntmps66
  go_wp2_with fail
  refine (news_any 1 2 _).mono ?_
  rintro e w1 ⟨⟨p0, hh, rfl, N1, X1⟩, hb1⟩
  go_wp2_with fail
  refine (add_second (p0 + 1) p0 w.heap.size (by omega) hh (by omega) _ N1 X1).mono ?_
  rintro e w2 ⟨rfl, O2, hb2⟩
  have bel2 := hb1.trans hb2
  go_wp2_with fail
  refine (at0_two _ (p0 + 1) 1 2 0 _ _ O2).mono ?_
  rintro e w3 ⟨rfl, hb3⟩
  have O3 := O2.below hb3
  have bel3 := bel2.trans (hb3.mono bel2.size)
  have R3 : Blk (w3.alloc (.cells pz 113)) w3.heap.size 113 pz := Blk.new _ _ _
  have bel4 := bel3.alloc bel3.size (.cells pz 113)
  have h3 := O3.lt
  have hw3 := bel3.size
  obtain ⟨k, cap, N, hne, hbk, hc, hcm, A, B⟩ := O3
  have hk : k ≠ w3.heap.size := Nat.ne_of_lt A.lt
  have hg : p0 + 1 ≠ w3.heap.size := Nat.ne_of_lt h3
  clear bel3 N1 X1 O2 hb2 hb3 bel2
  go_upto_region 4 with (refine wpList_store_row rfl 113 _ _ rfl _ _ rfl rfl _ _ R3 szP rfl (oneP 1 2 0) ?_)
  rw [show w3.alloc (.cells #[.int .u32 0, .int .u32 0, .int .i64 0, .int .i64 0, .int .i64 0, .int .i64 0, .int .i64 0, .bool false, .int .i64 0, .int .i64 0, .int .i64 0, .int .i64 0, .int .i64 0, .int .u32 0, .int .i64 0] 113) = w3.alloc (.cells pz 113) from rfl]
  have X5 : Blk _ w3.heap.size 113 (pth 1 2 0) := setRow_heap _ _ _ (pth 1 2 0) _ _ R3
  have N5 := blk_setRow (N.alloc (.cells pz 113)) hg (pth 1 2 0)
  have A5 := cel_setRow (A.alloc (.cells pz 113)) hk (pth 1 2 0)
  have B5 := cel_setRow (B.alloc (.cells pz 113)) hk (pth 1 2 0)
  have bel5 := below_setRow bel4 hw3 (pth 1 2 0)
  clear R3 N A B bel4
  generalize (w3.alloc (.cells pz 113)).setRow w3.heap.size (pth 1 2 0) = w5 at *
  have x2 : w5.cell? ⟨w3.heap.size, 2, none⟩ = some (.int .i64 0) := X5.cell 2
  have f2 := X5.frozen 2
  go_upto_region 5 with (fail)
  have X6 : Blk (w5.setCell ⟨w3.heap.size, 2, none⟩ (.int .i64 2)) w3.heap.size 113 (pth 1 2 2) := X5.set_ 2 (.int .i64 2)
  have O6 : TwoAt w.heap.size (p0 + 1) (pth 1 2 0) (pth 1 3 0) (w5.setCell ⟨w3.heap.size, 2, none⟩ (.int .i64 2)) := ⟨k, cap, N5.far hg _, hne, hbk, hc, hcm, A5.far hk _, B5.far hk _⟩
  have bel6 := bel5.setCell (p := ⟨w3.heap.size, 2, none⟩) hw3 (.int .i64 2)
  clear X5 N5 A5 B5 bel5 x2 f2
  generalize w5.setCell ⟨w3.heap.size, 2, none⟩ (.int .i64 2) = w6 at *
  go_wp2_with fail
  refine (use_first _ (p0 + 1) 1 2 _ _ O6).mono ?_
  rintro e w7 ⟨rfl, hb7⟩
  have X7 := X6.below hb7 X6.lt
  have O7 := O6.below hb7
  have bel7 := bel6.trans (hb7.mono bel6.size)
  clear X6 O6 bel6 hb7
  go_wp2_with (refine wpList_load_at_g (by rfl) 113 _ rfl w3.heap.size 0 rfl (pth 1 2 2) _ (Cel.of_blk X7) Try.underlying113 rfl szP ?_)
  refine (set_first (p0 + 1) w.heap.size (by omega) 1 2 0 2 _ _ O7).mono ?_
  rintro e w8 ⟨rfl, O8, hb8⟩
  have bel8 := bel7.trans hb8
  clear X7 O7 bel7 hb8
  go_wp2_with fail
  refine (use_second _ (p0 + 1) 1 2 1 3 _ O8).mono ?_
  rintro e w9 ⟨rfl, hb9⟩
  go_wp2_with fail
  go_ret
  exact ⟨rfl, bel8.trans (hb9.mono bel8.size)⟩
theorem zero_eq (w : World) : (Op.equalIn 10000 113 (.agg pz) (.agg #[.int .u32 0, .int .u32 0, .int .i64 0, .int .i64 0, .int .i64 0, .int .i64 0, .int .i64 0, .bool false, .int .i64 0, .int .i64 0, .int .i64 0, .int .i64 0, .int .i64 0, .int .u32 0, .int .i64 0])).run Try.prog w = .ok true w := by kernel_rfl
theorem zero_eql (w : World) : (binOp .eql 113 (.agg pz) (.agg #[.int .u32 0, .int .u32 0, .int .i64 0, .int .i64 0, .int .i64 0, .int .i64 0, .int .i64 0, .bool false, .int .i64 0, .int .i64 0, .int .i64 0, .int .i64 0, .int .i64 0, .int .u32 0, .int .i64 0])).run Try.prog w = .ok (.bool true) w := by kernel_rfl
theorem At_nil (n : Int) (w : World) : Calls Try.prog 111 #[.pointer none, .int .i64 n] w fun e w' => e = .returned (.agg pz) ∧ Below w.heap.size w w' := by
  go_enter Try.func111, Try.ntmps111
  go_wp2_with fail
  refine (has_nil _ _).mono ?_
  rintro e w1 ⟨rfl, rfl⟩
  have R1 := Blk.new w 113 pz
  have bel := (Below.refl w.heap.size w).alloc (Nat.le_refl _) (.cells pz 113)
  rw [show w.alloc (.cells #[.int .u32 0, .int .u32 0, .int .i64 0, .int .i64 0, .int .i64 0, .int .i64 0, .int .i64 0, .bool false, .int .i64 0, .int .i64 0, .int .i64 0, .int .i64 0, .int .i64 0, .int .u32 0, .int .i64 0] 113) = w.alloc (.cells pz 113) from rfl]
  generalize w.alloc (.cells pz 113) = w1 at *
  go_wp2_with (refine wpList_store_row rfl 113 _ _ rfl _ pz rfl rfl _ _ R1 szP rfl onePz ?_)
  exact bodyPost_ret (v := .agg pz) (results_cell_row rfl _ _ w.heap.size 113 pz (0, 0) _ rfl (setRow_heap _ _ _ _ _ _ R1) Try.underlying113 rfl szP) rfl ⟨rfl, below_setRow bel (Nat.le_refl _) _⟩
theorem Set_nil (n : Int) (x : Array Value) (w : World) : Calls Try.prog 72 #[.pointer none, .int .i64 n, .agg x] w fun e w' => e = .returned (.bool false) ∧ Below w.heap.size w w' := by
  have hH : ∀ w, Calls Try.prog 119 #[.pointer none, .int .i64 n] w fun e w' => e = .returned (.bool false) ∧ Below w.heap.size w w' := fun w => (has_nil n w).mono fun e w' ⟨he, hw⟩ => ⟨he, hw ▸ Below.refl _ _⟩
  have bel := (Below.refl w.heap.size w).alloc (Nat.le_refl _) (.cells x 113)
  go_enter Try.func72, Try.ntmps72
  go_wp2_with fail
  generalize w.alloc (.cells x 113) = w1 at *
  refine wp_region_quiet_below (by kernel_rfl) (by kernel_rfl) ?_
  repeat (any_goals (first | go_big_quiet_step ((go_at_call 119; with_reducible exact Calls.regrown_of (hH _))) | quiet_step ((go_at_call 119; with_reducible exact Calls.regrown_of (hH _)))))
  refine wpQuiet_nil ?_
  intro _ hw'
  obtain ⟨⟨dq, osq⟩, hw''⟩ := hw'
  subst hw''
  go_wp2
  go_ret
  exact ⟨rfl, bel.trans ((below_regrown _ dq osq).mono bel.size)⟩
theorem Use_nil (w : World) : Calls Try.prog 112 #[.pointer none] w fun e w' => e = .returned (.int .i64 (-1)) ∧ Below w.heap.size w w' := by
  have e2 : ∀ w, (Instr.field 113 (.agg pz) 2).run Try.prog w = .ok (.int .i64 0) w := fun w => by kernel_rfl
  go_enter Try.func112, Try.ntmps112
  go_wp2_with fail
  refine (first_nil _).mono ?_
  rintro e w1 ⟨rfl, rfl⟩
  go_wp2_with fail
  refine (At_nil _ _).mono ?_
  rintro e w2 ⟨rfl, hb2⟩
  go_wp2_with fail
  go_ret
  exact ⟨rfl, hb2⟩
end Go.Proofs.Ythddacgdmngfhaa.pat
