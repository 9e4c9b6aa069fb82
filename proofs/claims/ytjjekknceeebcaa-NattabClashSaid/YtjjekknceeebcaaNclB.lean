/- Layer 11: an entry stays as it is, when another one asks for its key. -/
import Derived.Test.YtjjekknceeebcaaNclA
namespace Go.Proofs.Ytjjekknceeebcaa.nat
open Go.Sort (grow)
open Go.ChangeShapes Go.WideShapes Go.ChangeAt Go.RowKit kit
set_option maxRecDepth 100000

theorem szE (a b c d i o s : Int) : (Try.prog.info? 25).map (·.size) = some (en a b c d i o s).size := by
  show _ = some 7
  kernel_rfl
theorem at0_one (g : Nat) (m a b c d i o s : Int) (w : World) (O : OneAt g m (en a b c d i o s) w) : Calls Try.prog 16 #[.pointer (some ⟨g, 0, none⟩), .int .i64 0] w fun e w' => e = .returned (.agg (en a b c d i o s)) ∧ Below w.heap.size w w' := by
  have hl := fun w O => has0_one g m (en a b c d i o s) w O
  have bel := (Below.refl w.heap.size w).alloc (Nat.le_refl _) (.cells (en 0 0 0 0 0 0 0) 25)
  have hg := O.lt
  go_enter Try.func16, Try.ntmps16
  go_wp2_with fail
  refine (hl _ (O.below bel)).mono ?_
  rintro e w1 ⟨rfl, hb1⟩
  have B1 := (Blk.new w 25 (en 0 0 0 0 0 0 0)).below hb1 (by simp)
  have bel1 : Below w.heap.size w w1 := bel.trans (hb1.mono bel.size)
  obtain ⟨h, cap, N, hne, hc, hcm, hR⟩ := (O.below bel).below hb1
  unfold maxLen at hcm
  have hgh : h ≠ w.heap.size := by
    obtain ⟨h2, cap2, N2, _, _, _, hR2⟩ := O
    have N3 := (N2.alloc (.cells (en 0 0 0 0 0 0 0) 25)).below hb1 (by simp; omega)
    have e := (N3.cell 1).symm.trans (N.cell 1)
    simp at e
    have := hR2.lt
    omega
  have r0 := hR.cell0 0 rfl
  have r1 := hR.cell0 1 rfl
  have r2 := hR.cell0 2 rfl
  have r3 := hR.cell0 3 rfl
  have r4 := hR.cell0 4 rfl
  have r5 := hR.cell0 5 rfl
  have r6 := hR.cell0 6 rfl
  have C := fun i => B1.cell i
  have CN := fun i => N.cell i
  have F := fun i => B1.frozen i
  have hz1 := B1.lt
  have HO := Lib.hid O
  clear hl O bel hb1
  go_wp2_with fail
  exact bodyPost_ret (v := .agg (en a b c d i o s)) (by simp [results, Try.results16, go_sem, C, F, hz1] <;> rfl) rfl ⟨rfl, (((((((bel1.setCell (Nat.le_refl _) _).setCell (Nat.le_refl _) _).setCell (Nat.le_refl _) _).setCell (Nat.le_refl _) _).setCell (Nat.le_refl _) _).setCell (Nat.le_refl _) _).setCell (Nat.le_refl _) _)⟩
theorem awake11_any (w : World) : Calls Try.prog 14 #[] w fun e w' => e = .returned (.bool true) ∧ Below w.heap.size w w' := by
  go_enter Try.func14, Try.ntmps14
  go_wp2_with fail
  refine (new_3 _).mono ?_
  rintro e w1 ⟨rfl, hw1⟩
  have B1 : Blk w1 w.heap.size 110 #[.int .i64 3, .slice none 0 0] := by rw [hw1]; exact Blk.new _ _ _
  have bel1 : Below w.heap.size w w1 := by rw [hw1]; exact (Below.refl _ _).alloc (Nat.le_refl _) _
  clear hw1
  go_wp2_with fail
  refine (add_first w.heap.size 3 1 5 9 7 4 0 0 (by omega) (by decide) _ B1).mono ?_
  rintro e w2 ⟨rfl, O, hb2, _⟩
  have bel2 := bel1.trans hb2
  go_wp2_with fail
  refine (add_second w.heap.size 3 1 5 9 7 4 0 0 2 0 0 (by decide) (by decide) _ O).mono ?_
  rintro e w3 ⟨rfl, hb3⟩
  have O3 := O.below hb3
  have bel3 := bel2.trans (hb3.mono bel2.size)
  go_wp2_with fail
  refine (len_one w.heap.size 3 _ _ O3).mono ?_
  rintro e w4 ⟨rfl, hb4⟩
  go_wp2_with fail
  go_ret
  exact ⟨rfl, bel3.trans (hb4.mono bel3.size)⟩
theorem mask3 (a : Nat) (ha : a ≤ 4294967295) : ∃ x : Int, bits .and .u32 (a : Int) 3 = x ∧ 0 ≤ x ∧ x ≤ 3 := by
  refine ⟨_, rfl, ?_⟩
  rw [show (3 : Int) = ((3 : Nat) : Int) from rfl, u32_and_nat a 3 (by omega) (by omega)]
  have : a &&& 3 ≤ 3 := Nat.and_le_right
  omega
theorem near_any (a i : Nat) (ha : a ≤ 4294967295) (hi : i ≤ 4294967295) (b c d o s : Int) (w : World) : Calls Try.prog 12 #[.agg (en a b c d i o s)] w fun e w' => (∃ a' b' c' d' i' o', (1 ≤ a' ∧ a' ≤ 4) ∧ (0 ≤ i' ∧ i' ≤ 3) ∧ e = .returned (.agg (en a' b' c' d' i' o' s))) ∧ Below w.heap.size w w' := by
  obtain ⟨x, hx, hx0, hx1⟩ := mask3 a ha
  obtain ⟨y, hy, hy0, hy1⟩ := mask3 i hi
  go_enter Try.func12, Try.ntmps12
  go_wp2_with fail
  generalize bits BinOp.and IntKind.i64 b 1 = b'
  generalize bits BinOp.and IntKind.i64 d 1 = d'
  generalize bits BinOp.and IntKind.u32 o 3 = o'
  generalize (bits BinOp.and IntKind.u32 c 1 + 9) % 4294967296 = c'
  have R : Blk ((w.alloc (.cells (en a b c d i o s) 25)).alloc (.cells (en (x + 1) b' c' d' y o' s) 25)) (w.heap.size + 1) 25 (en (x + 1) b' c' d' y o' s) := blk_new2 _ _ _ _
  exact bodyPost_ret (v := .agg (en (x + 1) b' c' d' y o' s)) (results_cell_at rfl _ _ (w.heap.size + 1) 0 (en (x + 1) b' c' d' y o' s) _ rfl (Cel.of_blk R) Try.underlying25 rfl (szE _ _ _ _ _ _ _)) rfl ⟨⟨x + 1, b', c', d', y, o', by omega, by omega, rfl⟩, ((Below.refl _ _).alloc (Nat.le_refl _) _).alloc (by simp) _⟩
theorem or1 (i : Nat) (hi : i ≤ 3) : ∃ y : Int, bits .or .u32 (i : Int) 1 = y ∧ (y == 0) = false := by
  have hor := u32_or_nat i 1 (by omega) (by omega)
  refine ⟨_, rfl, ?_⟩
  rw [show (1 : Int) = ((1 : Nat) : Int) from rfl, hor]
  have h : (i ||| 1).testBit 0 = true := by simp
  refine beq_eq_false_iff_ne.2 fun q => ?_
  have : (i ||| 1) = 0 := by omega
  rw [this] at h
  simp at h
theorem mask7 (a : Nat) (ha : a ≤ 4294967295) : ∃ x : Int, bits .and .u32 (a : Int) 7 = x ∧ 0 ≤ x ∧ x ≤ 7 := by
  refine ⟨_, rfl, ?_⟩
  rw [show (7 : Int) = ((7 : Nat) : Int) from rfl, u32_and_nat a 7 (by omega) (by omega)]
  have : a &&& 7 ≤ 7 := Nat.and_le_right
  omega
set_option maxHeartbeats 4000000 in
theorem clash_law (a i n : Nat) (ha : a ≤ 4294967295) (hi : i ≤ 4294967295) (hn : n ≤ 4294967295) (b c d o s seen : Int) (w : World) :
    Calls Try.prog 3 #[.agg (en a b c d i o s), .int .u32 n, .int .i64 seen] w fun e w' => e = .returned (.bool true) ∧ Below w.heap.size w w' := by
  obtain ⟨m, hm, hm0, hm1⟩ := mask7 n hn
  go_enter Try.func3, Try.ntmps3
  go_wp2_with fail
  refine (new_9 _).mono ?_
  rintro e w1 ⟨rfl, hw1⟩
  have B1 : Blk w1 (w.heap.size + 1) 110 #[.int .i64 9, .slice none 0 0] := by rw [hw1]; exact blk_new2 _ _ _ _
  have N1 : Blk w1 w.heap.size 25 (en a b c d i o s) := by rw [hw1]; exact (Blk.new _ _ _).alloc _
  have bel1 : Below w.heap.size w w1 := by rw [hw1]; exact ((Below.refl _ _).alloc (Nat.le_refl _) _).alloc (by simp) _
  clear hw1
  have C1 := fun i => N1.cell i
  go_wp2_with fail
  refine (near_any a i ha hi _ _ _ _ _ _).mono ?_
  rintro e w2 ⟨⟨a', b', c', d', i', o', ha', hi', rfl⟩, hb2⟩
  obtain ⟨k, rfl⟩ : ∃ k : Nat, i' = k := ⟨i'.toNat, by omega⟩
  obtain ⟨y, hy, hy0⟩ := or1 k (by omega)
  have B2 := B1.below hb2 B1.lt
  have bel2 := bel1.trans (hb2.mono bel1.size)
  have hs2 : w1.heap.size ≤ w2.heap.size := hb2.size
  have hg := B1.lt
  clear C1 N1 B1 bel1 hb2 hi'
  go_upto_region 6 with (fail)
  have X3 : Blk ((w2.alloc (.cells (en a' b' c' d' y o' s) 25)).alloc (.cells (en (a' + 1 + m) b' c' d' y 0 seen) 25)) w2.heap.size 25 (en a' b' c' d' y o' s) := (Blk.new _ _ _).alloc _
  have Y3 : Blk ((w2.alloc (.cells (en a' b' c' d' y o' s) 25)).alloc (.cells (en (a' + 1 + m) b' c' d' y 0 seen) 25)) (w2.heap.size + 1) 25 (en (a' + 1 + m) b' c' d' y 0 seen) := blk_new2 _ _ _ _
  have T3 := (B2.alloc (.cells (en a' b' c' d' y o' s) 25)).alloc (.cells (en (a' + 1 + m) b' c' d' y 0 seen) 25)
  have bel3 := (bel2.alloc bel2.size (.cells (en a' b' c' d' y o' s) 25)).alloc (by simp; have := bel2.size; omega) (.cells (en (a' + 1 + m) b' c' d' y 0 seen) 25)
  generalize (w2.alloc (.cells (en a' b' c' d' y o' s) 25)).alloc (.cells (en (a' + 1 + m) b' c' d' y 0 seen) 25) = w3 at *
  have hx1 : w2.heap.size ≠ w.heap.size + 1 := by omega
  have hy1 : w2.heap.size + 1 ≠ w.heap.size + 1 := by omega
  have hd : (a' == a' + 1 + m) = false := beq_eq_false_iff_ne.2 (by omega)
  have hF := fun w (B : Blk w (w.heap.size + 1) 110 #[.int .i64 9, .slice none 0 0]) => add_first (w.heap.size + 1) 9 a' b' c' d' y o' s (by omega) hy0 w B
  clear B2 bel2 hy hm ha'
  have CX := fun i => X3.cell i
  have CY := fun i => Y3.cell i
  go_wp2_with fail
  go_region_with (go_at_call 13; first | ((with_reducible refine (add_first (w.heap.size + 1) 9 a' b' c' d' y o' s (by omega) hy0 _ ?_).mono ?_); exact T3; rintro e w4 ⟨rfl, O4, hb4, on4⟩; have Y4 := on4.blk Y3.drew hy1; have CY4 := fun i => Y4.cell i) | ((with_reducible refine (add_second (w.heap.size + 1) 9 a' b' c' d' y o' s (a' + 1 + m) 0 seen hy0 hd _ ?_).mono ?_); exact O4; rintro e w5 ⟨rfl, hb5⟩))
  all_goals
    have X4 := on4.blk X3.drew hx1
    have X5 := X4.below hb5 X4.lt
    have O5 := O4.below hb5
    have bel4 := bel3.drew.trans (hb4.mono (Nat.le_succ _))
    have bel5 := bel4.trans (hb5.mono bel4.size)
    clear X4 X3 Y3 Y4 CX CY CY4 O4 on4 hb4 hb5 bel3 bel4 T3 hd hx1 hy1 hy0
    have hL := fun dd oo => len_one (w.heap.size + 1) 9 _ (grow (redrawn w5 dd) oo) (O5.below (below_regrown w5 dd oo))
    have hA := fun dd oo => at0_one (w.heap.size + 1) 9 a' b' c' d' y o' s (grow (redrawn w5 dd) oo) (O5.below (below_regrown w5 dd oo))
    have k0 := cell_regrown (X5.cell 0)
    have k1 := cell_regrown (X5.cell 1)
    have k2 := cell_regrown (X5.cell 2)
    have k3 := cell_regrown (X5.cell 3)
    have k4 := cell_regrown (X5.cell 4)
    have k5 := cell_regrown (X5.cell 5)
    have k6 := cell_regrown (X5.cell 6)
    clear X5 O5
    go_wp2_with fail
    refine wp_region_quiet_below (by kernel_rfl) (by kernel_rfl) ?_
    repeat (any_goals (first | go_big_quiet_step ((first | (go_at_call 14; with_reducible exact Calls.regrown_of (awake11_any _)) | (go_at_call 15; with_reducible exact Calls.regrown_of (hL _ _)) | (go_at_call 16; with_reducible exact Calls.regrown_of (hA _ _)))) | quiet_step ((first | (go_at_call 14; with_reducible exact Calls.regrown_of (awake11_any _)) | (go_at_call 15; with_reducible exact Calls.regrown_of (hL _ _)) | (go_at_call 16; with_reducible exact Calls.regrown_of (hA _ _))))))
    refine wpQuiet_nil ?_
    intro _ hw'
    obtain ⟨⟨dq, osq⟩, hw''⟩ := hw'
    subst hw''
    go_wp2
    go_ret
    exact ⟨ret_true (by simp), bel5.trans ((below_regrown _ dq osq).mono bel5.size)⟩
end Go.Proofs.Ytjjekknceeebcaa.nat
