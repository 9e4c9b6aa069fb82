/- Layer 11: a second entry of the same key. -/
import Derived.Test.YtlbociddakhblaaNatC
namespace Go.Proofs.Ytlbociddakhblaa.nat
open Go.ChangeShapes Go.WideShapes Go.ChangeAt Go.RowKit kit
set_option maxRecDepth 100000

theorem cl_add (q : Nat) (w : World) (E : Blk w q 58 (en 2 5 9 7 4 0 0)) : Calls Try.prog 126 #[.agg (en 1 5 9 7 4 0 0), .pointer (some ⟨q, 0, none⟩)] w fun e w' => e = .returned (.bool true) ∧ Below w.heap.size w w' := by
  have h1 := fun w => keyOf_any 1 5 9 7 4 0 0 w
  have h2 := fun w => keyOf_any 2 5 9 7 4 0 0 w
  go_enter Try.func126, Try.ntmps126
  have N := Blk.new w 58 (en 1 5 9 7 4 0 0)
  have E1 := E.alloc (.cells (en 1 5 9 7 4 0 0) 58)
  have bel := (Below.refl w.heap.size w).alloc (Nat.le_refl _) (.cells (en 1 5 9 7 4 0 0) 58)
  go_wp2_with fail
  generalize w.alloc (.cells (en 1 5 9 7 4 0 0) 58) = w1 at *
  have k0 := cell_regrown (N.cell 0)
  have l0 := cell_regrown (E1.cell 0)
  have k1 := cell_regrown (N.cell 1)
  have l1 := cell_regrown (E1.cell 1)
  have k2 := cell_regrown (N.cell 2)
  have l2 := cell_regrown (E1.cell 2)
  have k3 := cell_regrown (N.cell 3)
  have l3 := cell_regrown (E1.cell 3)
  have k4 := cell_regrown (N.cell 4)
  have l4 := cell_regrown (E1.cell 4)
  have k5 := cell_regrown (N.cell 5)
  have l5 := cell_regrown (E1.cell 5)
  have k6 := cell_regrown (N.cell 6)
  have l6 := cell_regrown (E1.cell 6)
  refine wp_region_quiet_below (by kernel_rfl) (by kernel_rfl) ?_
  repeat (any_goals (first | go_big_quiet_step ((go_at_call 127; first | (with_reducible exact Calls.regrown_of (h1 _)) | (with_reducible exact Calls.regrown_of (h2 _)))) | quiet_step ((go_at_call 127; first | (with_reducible exact Calls.regrown_of (h1 _)) | (with_reducible exact Calls.regrown_of (h2 _))))))
  refine wpQuiet_nil ?_
  intro _ hw'
  obtain ⟨⟨dq, osq⟩, hw''⟩ := hw'
  subst hw''
  go_wp2
  go_ret
  exact ⟨rfl, bel.trans ((below_regrown _ dq osq).mono bel.size)⟩
theorem refresh_clash (h : Nat) (w : World) (c0 : w.cell? ⟨h, 0, none⟩ = some (.int .u32 1)) : Calls Try.prog 128 #[.pointer (some ⟨h, 0, none⟩), .agg (en 2 5 9 7 4 0 0)] w fun e w' => e = .returned (.int .i64 110) ∧ Below w.heap.size w w' := by
  have c1 := (World.cell?_alloc_lt w (.cells (en 2 5 9 7 4 0 0) 58) ⟨h, 0, none⟩ (block_lt_of_cell c0)).trans c0
  have bel := (Below.refl w.heap.size w).alloc (Nat.le_refl _) (.cells (en 2 5 9 7 4 0 0) 58)
  have N := Blk.new w 58 (en 2 5 9 7 4 0 0)
  have C := fun i => N.cell i
  go_enter Try.func128, Try.ntmps128
  go_wp2_with fail
  generalize w.alloc (.cells (en 2 5 9 7 4 0 0) 58) = w1 at *
  go_region
  all_goals
    go_wp2_with fail
    go_ret
    exact ⟨rfl, bel.drew⟩
theorem len_one (g : Nat) (w : World) (O : OneAt g w) : Calls Try.prog 80 #[.pointer (some ⟨g, 0, none⟩)] w fun e w' => e = .returned (.int .i64 1) ∧ Below w.heap.size w w' := by
  obtain ⟨h, cap, B, _⟩ := O
  have C := fun i => B.cell i
  go_enter Try.func80, Try.ntmps80
  go_wp2_with fail
  go_ret
  exact ⟨rfl, Below.refl _ _⟩
theorem idx_one (h q cap : Nat) (w : World) (E : Blk w q 58 (en 2 5 9 7 4 0 0)) (hc : 1 ≤ cap) (hcm : cap ≤ maxLen) (hR : ∀ j u, (en 1 5 9 7 4 0 0)[j]? = some u → w.cell? ⟨h, j, none⟩ = some u) :
    Calls Try.prog 157 #[.slice (some ⟨h, 0, none⟩) 1 cap, .func (.func 126) #[] #[.pointer (some ⟨q, 0, none⟩)]] w fun e w' => e = .returned (.int .i64 0) ∧ Below w.heap.size w w' := by
  unfold maxLen at hcm
  have r0 := hR 0 _ rfl
  have r1 := hR 1 _ rfl
  have r2 := hR 2 _ rfl
  have r3 := hR 3 _ rfl
  have r4 := hR 4 _ rfl
  have r5 := hR 5 _ rfl
  have r6 := hR 6 _ rfl
  clear hR
  go_enter Try.func157, Try.ntmps157
  go_wp2
  refine wp_loop_rounds 1 ?_
  rw [rounds_succ]
  go_wp2_with fail
  refine (cl_add q _ E).mono ?_
  rintro e w1 ⟨rfl, hb1⟩
  go_wp2_with fail
  go_ret
  exact ⟨rfl, hb1⟩
theorem find_one (g q : Nat) (w : World) (O : OneAt g w) (E : Blk w q 58 (en 2 5 9 7 4 0 0)) : Calls Try.prog 125 #[.pointer (some ⟨g, 0, none⟩), .func (.func 126) #[] #[.pointer (some ⟨q, 0, none⟩)]] w fun e w' => e = .returned (.int .i64 0) ∧ Below w.heap.size w w' := by
  obtain ⟨h, cap, B, _, _, hc, hcm, hR⟩ := O
  have hI := idx_one h q cap w E hc hcm hR
  have C := fun i => B.cell i
  clear hR
  go_enter Try.func125, Try.ntmps125
  go_wp2_with fail
  refine hI.mono ?_
  rintro e w1 ⟨rfl, hb1⟩
  go_wp2_with fail
  go_ret
  exact ⟨rfl, hb1⟩
theorem OneAt.below {g : Nat} {w w' : World} (O : OneAt g w) (hb : Below w.heap.size w w') : OneAt g w' := by
  obtain ⟨h, cap, B, hne, hlt, hc, hcm, hR⟩ := O
  exact ⟨h, cap, B.below hb B.lt, hne, Nat.lt_of_lt_of_le hlt hb.size, hc, hcm, fun j u hu => (hb.cell (p := ⟨h, j, none⟩) hlt).trans (hR j u hu)⟩
theorem add_second (g : Nat) (w : World) (O : OneAt g w) : Calls Try.prog 79 #[.pointer (some ⟨g, 0, none⟩), .agg (en 2 5 9 7 4 0 0)] w fun e w' => e = .returned (.int .i64 110) ∧ Below w.heap.size w w' := by
  have bel := (Below.refl w.heap.size w).alloc (Nat.le_refl _) (.cells (en 2 5 9 7 4 0 0) 58)
  have N := Blk.new w 58 (en 2 5 9 7 4 0 0)
  have O1 := O.below bel
  have hF := find_one g w.heap.size _ O1 N
  have C0 := fun i => N.cell i
  obtain ⟨_, _, B0, _⟩ := O
  have CB := fun i => B0.cell i
  go_enter Try.func79, Try.ntmps79
  go_wp2_with fail
  refine hF.mono ?_
  rintro e w1 ⟨rfl, hb1⟩
  have O2 := O1.below hb1
  have N2 := N.below hb1 N.lt
  have bel1 := bel.trans (hb1.mono bel.size)
  clear hF O1 N bel C0 hb1
  obtain ⟨h, cap, B, hne, hlt, hc, hcm, hR⟩ := O2
  unfold maxLen at hcm
  have r0 := hR 0 _ rfl
  have C := fun i => B.cell i
  have CN := fun i => N2.cell i
  have hRf := fun w c0 => refresh_clash h w c0
  go_wp2_with fail
  go_region_with (go_at_call 128; refine (hRf _ ?_).mono ?_; exact r0; rintro e w3 ⟨rfl, hb3⟩)
  all_goals
    go_wp2_with fail
    go_ret
    exact ⟨rfl, bel1.drew.trans (hb3.mono bel1.size)⟩
end Go.Proofs.Ytlbociddakhblaa.nat
