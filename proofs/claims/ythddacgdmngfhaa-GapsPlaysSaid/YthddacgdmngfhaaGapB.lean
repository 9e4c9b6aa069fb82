/- Layer 16: a number that comes. -/
import Derived.Test.YthddacgdmngfhaaGapA
namespace Go.Proofs.Ythddacgdmngfhaa.gap
open Go.Sort (grow)
open Go.ChangeShapes Go.WideShapes Go.ChangeAt Go.RowKit kit
set_option maxRecDepth 100000

theorem part_zero (w : World) : (zeroValue 193).run Try.prog w = .ok (.agg (prt 0 0)) w := Try.zeroValue193 w
theorem run_clear_part {x y : Int} (w : World) (ty : TypeId) (h c : Nat) (K : Cel w h 0 (prt x y)) :
    (Builtin.clear_ #[187] ty #[.slice (some ⟨h, 0, none⟩) 1 c]).run Try.prog w = .ok (.tuple #[]) (w.setCells h 0 (prt 0 0).toList) := by
  have hst := run_storeCells_cells (P := Try.prog) h 0 (prt 0 0).toList 0 w (fun j hj => K.isSome j (by simpa using hj)) (fun j hj => K.frozen j (by simpa using hj)) (by
    intro v hv
    simp at hv
    rcases hv with rfl | rfl <;> rfl)
  simp only [Nat.add_zero] at hst
  have hzc : (Builtin.zeroCells (Value.agg (prt 0 0)).cells 1).toList = (prt 0 0).toList := by kernel_rfl
  simp only [Builtin.clear_, run_underlying Try.underlying187, Sem.run_bind, Result.andThen_ok]
  simp [part_zero, hzc, hst]
theorem delete_first (h cap : Nat) (x y : Int) (w : World) (hc1 : 1 ≤ cap) (hc2 : cap ≤ maxLen) (K : Cel w h 0 (prt x y)) : Calls Try.prog 154 #[.slice (some ⟨h, 0, none⟩) 1 cap, .int .i64 0, .int .i64 1] w fun e w' => e = .returned (.slice (some ⟨h, 0, none⟩) 0 cap) ∧ w' = w.drew.setCells h 0 (prt 0 0).toList := by
  unfold maxLen at hc2
  go_enter Try.func154, Try.ntmps154
  go_wp2_with fail
  refine wp_region_still_tail 6 (by kernel_rfl) (by kernel_rfl) ?_
  simp only [List.take_succ_cons, List.take_zero, List.drop_succ_cons, List.drop_zero]
  repeat still_step
  refine wpStill_nil ?_
  change wpList _ _ _ _ _ w.drew
  have hcl := fun ty c => run_clear_part w.drew ty h c K.drew
  clear K
  generalize hw : w.drew = w1 at *
  have HW := Lib.hid hw
  clear hw
  by_cases h1 : cap = 1
  · subst h1
    go_wp2
    go_ret
    exact ⟨rfl, by rw [HW.out]⟩
  · go_wp2
    go_ret
    exact ⟨rfl, by rw [HW.out]⟩
theorem look_emp (g : Nat) (t c k : Int) (v d : Value) (hv : Emp v) (hk0 : 0 < k) (hk1 : k ≤ 1000) (hD : ∀ w, Calls Try.prog 96 #[.int .u32 t, .int .u32 c] w fun e w' => e = .returned (.int .i64 k) ∧ w = w') (w : World) (B : Blk w g 189 #[.int .u32 c, v, d]) : Calls Try.prog 38 #[.pointer (some ⟨g, 0, none⟩), .int .u32 t] w fun e w' => e = .returned (.int .i64 1) ∧ Below w.heap.size w w' := by
  have hF := fun f w B => find_emp g c v d f hv w B
  have hD' : ∀ w, Calls Try.prog 96 #[.int .u32 t, .int .u32 c] w fun e w' => e = .returned (.int .i64 k) ∧ Below w.heap.size w w' := fun w => (hD w).mono fun e w' ⟨he, hw⟩ => ⟨he, hw ▸ Below.refl _ _⟩
  have B1 := B.alloc (.cells #[.int .u32 t] 28)
  have bel := (Below.refl w.heap.size w).alloc (Nat.le_refl _) (.cells #[.int .u32 t] 28)
  have N1 := Blk.new w 28 #[.int .u32 t]
  clear hD
  go_enter Try.func38, Try.ntmps38
  go_wp2_with fail
  generalize w.alloc (.cells #[.int .u32 t] 28) = w1 at *
  have kq0 := cell_regrown (B1.cell 0)
  have kq1 := cell_regrown (N1.cell 0)
  refine wp_region_quiet_below (by kernel_rfl) (by kernel_rfl) ?_
  repeat (any_goals (first | go_big_quiet_step ((go_at_call 96; with_reducible exact Calls.regrown_of (hD' _))) | quiet_step ((go_at_call 96; with_reducible exact Calls.regrown_of (hD' _)))))
  refine wpQuiet_nil ?_
  intro _ hw'
  obtain ⟨⟨dq, osq⟩, hw''⟩ := hw'
  subst hw''
  have hbq := below_regrown w1 dq osq
  clear kq0 kq1
  generalize grow (redrawn w1 dq) osq = w2 at *
  have B2 := B1.below hbq B1.lt
  have bel2 := bel.trans (hbq.mono bel.size)
  clear B1 N1 hbq bel hD'
  go_wp2_with fail
  refine (hF _ _ B2).mono ?_
  rintro e w3 ⟨rfl, rfl⟩
  go_wp2_with fail
  go_ret
  exact ⟨rfl, bel2⟩
theorem blk_setCells_own {h : Nat} {t : TypeId} : ∀ (vs : List Value) (o : Nat) (w : World) (cur : Array Value), Blk w h t cur → ∃ cur', Blk (w.setCells h o vs) h t cur' ∧ cur'.size = cur.size
  | [], _, _, cur, B => ⟨cur, B, rfl⟩
  | v :: r, o, w, cur, B => by
    obtain ⟨c, B', hs⟩ := blk_setCells_own r (o + 1) _ _ (B.set_ o v)
    exact ⟨c, B', by simpa using hs⟩
theorem own_blk {w : World} {b0 h n cap size : Nat} {t : TypeId} {xs : List Value} (own : w.ownsRow b0 t size (.slice (some ⟨h, 0, none⟩) n cap) n xs) : ∃ cur, Blk w h t cur ∧ b0 ≤ h ∧ n ≤ cap ∧ cap ≤ maxLen ∧ cur.size = cap * size := by
  rcases own.2 with ⟨q, _⟩ | ⟨h', cap', cur, q, hb, hg, hn, hm, hs, _⟩
  · simp at q
  · simp only [Value.slice.injEq, Option.some.injEq, Addr.mk.injEq, and_true, true_and] at q
    obtain ⟨rfl, rfl⟩ := q
    exact ⟨cur, hg, hb, hn, hm, hs⟩
/-- Nobody's part: the row is there still. -/
theorem own_none {w : World} {b0 h cap size : Nat} {t : TypeId} {cur : Array Value} (B : Blk w h t cur) (hb : b0 ≤ h) (hm : cap ≤ maxLen) (hs : cur.size = cap * size) : w.ownsRow b0 t size (.slice (some ⟨h, 0, none⟩) 0 cap) 0 [] :=
  ⟨by simp, .inr ⟨h, cap, cur, rfl, hb, B, Nat.zero_le _, hm, hs, by simp⟩⟩
theorem own_below {w w' : World} {b0 B n size : Nat} {t : TypeId} {v : Value} {xs : List Value} (own : w.ownsRow b0 t size v n xs) (hb : Below B w w') (hv : ∀ k, v.ownBlock = some k → k < B) : w'.ownsRow b0 t size v n xs := by
  refine ⟨own.1, ?_⟩
  rcases own.2 with q | ⟨h, cap, cur, rfl, q1, q2, q3⟩
  · exact .inl q
  · exact .inr ⟨h, cap, cur, rfl, q1, (hb.block h (hv h rfl)).trans q2, q3⟩
theorem own_ge {w : World} {b0 n size : Nat} {t : TypeId} {v : Value} {xs : List Value} (own : w.ownsRow b0 t size v n xs) : ∀ k, v.ownBlock = some k → b0 ≤ k := by
  intro k hk
  rcases own.2 with ⟨rfl, _⟩ | ⟨h, cap, cur, rfl, q1, _⟩
  · cases hk
  · cases hk; exact q1
theorem own_other {w w' : World} {b0 n size : Nat} {t : TypeId} {v : Value} {xs : List Value} (own : w.ownsRow b0 t size v n xs) (hb : ∀ k, v.ownBlock = some k → w'.heap[k]? = w.heap[k]?) : w'.ownsRow b0 t size v n xs := by
  refine ⟨own.1, ?_⟩
  rcases own.2 with q | ⟨h, cap, cur, rfl, q1, q2, q3⟩
  · exact .inl q
  · exact .inr ⟨h, cap, cur, rfl, q1, (hb h rfl).trans q2, q3⟩
theorem goOn_one (b0 g h cap : Nat) (d : Value) (w : World) (B : Blk w g 189 #[.int .u32 0, .slice (some ⟨h, 0, none⟩) 1 cap, d]) (own : w.ownsRow b0 193 2 (.slice (some ⟨h, 0, none⟩) 1 cap) 1 (prt 1 1).toList) (hne : g ≠ h) (hg : b0 ≤ g) : Calls Try.prog 102 #[.pointer (some ⟨g, 0, none⟩)] w fun e w' => e = .returned (.tuple #[]) ∧ Blk w' g 189 #[.int .u32 1, .slice (some ⟨h, 0, none⟩) 0 cap, d] ∧ w'.ownsRow b0 193 2 (.slice (some ⟨h, 0, none⟩) 0 cap) 0 [] ∧ Below b0 w w' := by
  obtain ⟨cur, R, hh, hc1, hc2, hcs⟩ := own_blk own
  have K : Cel w h 0 (prt 1 1) := Cel.of_owns own
  clear own
  go_enter Try.func102, Try.ntmps102
  go_wp2_with fail
  have kq0 := cell_regrown (B.cell 0)
  have kq1 := cell_regrown (B.cell 1)
  have kq2 := cell_regrown (K.cell0 0 rfl)
  refine wp_region_quiet_below (by kernel_rfl) (by kernel_rfl) ?_
  repeat (any_goals (first | go_big_quiet_step (fail) | quiet_step (fail)))
  refine wpQuiet_nil ?_
  intro _ hw'
  obtain ⟨⟨dq, osq⟩, hw''⟩ := hw'
  subst hw''
  have hbq := below_regrown w dq osq
  clear kq0 kq1 kq2
  generalize grow (redrawn w dq) osq = w1 at *
  have B1 := B.below hbq B.lt
  have K1 := K.below hbq K.lt
  have R1 := R.below hbq R.lt
  have bel1 : Below b0 w w1 := hbq.mono (by have := B.lt; omega)
  clear B K R hbq
  have c0 : w1.cell? ⟨g, 0, none⟩ = some (.int .u32 0) := B1.cell 0
  have c1 : w1.cell? ⟨g, 1, none⟩ = some (.slice (some ⟨h, 0, none⟩) 1 cap) := B1.cell 1
  have k1 := K1.cell0 1 rfl
  have f0 := B1.frozen 0
  have hD := fun w K => delete_first h cap 1 1 w hc1 hc2 K
  unfold maxLen at hc2
  go_wp2_with fail
  have B2 : Blk (w1.setCell ⟨g, 0, none⟩ (.int .u32 1)) g 189 #[.int .u32 1, .slice (some ⟨h, 0, none⟩) 1 cap, d] := B1.set_ 0 (.int .u32 1)
  have K2 := K1.far (p := ⟨g, 0, none⟩) (Ne.symm hne) (.int .u32 1)
  have R2 := R1.far (p := ⟨g, 0, none⟩) (Ne.symm hne) (.int .u32 1)
  have bel2 := bel1.setCell (p := ⟨g, 0, none⟩) hg (.int .u32 1)
  clear B1 K1 R1 bel1 c0 c1 k1 f0
  generalize w1.setCell ⟨g, 0, none⟩ (.int .u32 1) = w2 at *
  refine (hD _ K2).mono ?_
  rintro e w3 ⟨rfl, hw3⟩
  obtain ⟨cur3, R3, hs3⟩ : ∃ cur', Blk w3 h 193 cur' ∧ cur'.size = cur.size := by rw [hw3]; exact blk_setCells_own _ _ _ _ R2.drew
  have B3 : Blk w3 g 189 #[.int .u32 1, .slice (some ⟨h, 0, none⟩) 1 cap, d] := by rw [hw3]; exact blk_setCells B2.drew hne _ _
  have bel3 : Below b0 w w3 := by rw [hw3]; exact below_setCells bel2.drew hh _ _
  clear hw3 B2 K2 R2 bel2 hD
  have c1 := B3.cell 1
  have f1 := B3.frozen 1
  have gl := B3.lt
  go_wp2_with fail
  go_end0
  exact ⟨rfl, B3.set_ 1 _, own_none (R3.far (p := ⟨g, 1, none⟩) (Ne.symm hne) _) hh (by unfold maxLen; omega) (by rw [hs3, hcs]), bel3.setCell hg _⟩
theorem goOn_stay (g h cap : Nat) (d : Value) (w : World) (B : Blk w g 189 #[.int .u32 1, .slice (some ⟨h, 0, none⟩) 1 cap, d]) (K : Cel w h 0 (prt 3 3)) (hc1 : 1 ≤ cap) (hc2 : cap ≤ maxLen) : Calls Try.prog 102 #[.pointer (some ⟨g, 0, none⟩)] w fun e w' => e = .returned (.tuple #[]) ∧ Below w.heap.size w w' := by
  go_enter Try.func102, Try.ntmps102
  go_wp2_with fail
  have kq0 := cell_regrown (B.cell 0)
  have kq1 := cell_regrown (B.cell 1)
  have kq2 := cell_regrown (K.cell0 0 rfl)
  refine wp_region_quiet_below (by kernel_rfl) (by kernel_rfl) ?_
  repeat (any_goals (first | go_big_quiet_step (fail) | quiet_step (fail)))
  refine wpQuiet_nil ?_
  intro _ hw'
  obtain ⟨⟨dq, osq⟩, hw''⟩ := hw'
  subst hw''
  have hbq := below_regrown w dq osq
  clear kq0 kq1 kq2
  generalize grow (redrawn w dq) osq = w1 at *
  go_wp2_with fail
  go_end0
  exact ⟨rfl, hbq⟩
/-- One part. -/
def OneP (b0 g : Nat) (c x : Int) (d : Value) (w : World) : Prop := ∃ h cap, h ≠ g ∧ Blk w g 189 #[.int .u32 c, .slice (some ⟨h, 0, none⟩) 1 cap, d] ∧ w.ownsRow b0 193 2 (.slice (some ⟨h, 0, none⟩) 1 cap) 1 (prt x x).toList
theorem Emp.of_own {w : World} {b0 : Nat} {t : TypeId} {v : Value} (own : w.ownsRow b0 t 2 v 0 []) : Emp v := by
  rcases own.2 with ⟨rfl, _⟩ | ⟨h, cap, cur, rfl, _⟩
  · exact .inl rfl
  · exact .inr ⟨h, cap, rfl⟩
set_option maxHeartbeats 1000000 in
theorem join_emp (b0 g : Nat) (x c : Int) (v d : Value) (w : World) (B : Blk w g 189 #[.int .u32 c, v, d]) (own : w.ownsRow b0 193 2 v 0 []) (hvg : v.ownBlock ≠ some g) (hvl : ∀ k, v.ownBlock = some k → k < w.heap.size) (hg : b0 ≤ g) : Calls Try.prog 101 #[.pointer (some ⟨g, 0, none⟩), .int .u32 x] w fun e w' => e = .returned (.tuple #[]) ∧ OneP b0 g c x d w' ∧ Below b0 w w' := by
  have hv := Emp.of_own own
  have hF := fun f w B => find_emp g c v d f hv w B
  have B1 := B.alloc (.cells #[.int .u32 x] 28)
  have bel1 : Below b0 w (w.alloc (.cells #[.int .u32 x] 28)) := (Below.refl _ _).alloc (by have := B.lt; omega) _
  have X1 := Blk.new w 28 #[.int .u32 x]
  have own1 := own_below own ((Below.refl w.heap.size w).alloc (Nat.le_refl _) (.cells #[.int .u32 x] 28)) hvl
  have HO := Lib.hid own1
  have hg1 := B.lt
  have hx : w.heap.size ≠ g := by omega
  have hvb := own_ge own
  clear own own1 B
  rcases hv with rfl | ⟨hh, hcap, rfl⟩
  all_goals
    go_enter Try.func101, Try.ntmps101
    go_wp2_with fail
    refine (hF _ _ B1).mono ?_
    rintro e w1 ⟨rfl, rfl⟩
    generalize w.alloc (.cells #[.int .u32 x] 28) = w1 at *
    have c1 := B1.cell 1
    go_wp2_with fail
    have kq0 := cell_regrown (B1.cell 1)
    refine wp_region_quiet_below (by kernel_rfl) (by kernel_rfl) ?_
    repeat (any_goals (first | go_big_quiet_step (fail) | quiet_step (fail)))
    refine wpQuiet_nil ?_
    intro _ hw'
    obtain ⟨⟨dq, osq⟩, hw''⟩ := hw'
    subst hw''
    have hbq := below_regrown w1 dq osq
    clear kq0
    generalize grow (redrawn w1 dq) osq = w2 at *
    have B2 := B1.below hbq B1.lt
    have X2 := X1.below hbq X1.lt
    have bel2 := bel1.trans (hbq.mono (by have := bel1.size; omega))
    have own2 := Lib.hid (own_below HO.out hbq (fun k hk => Nat.lt_of_lt_of_le (hvl k hk) (by have := bel1.size; have := X1.lt; omega)))
    have hs2 := hbq.size
    clear hbq B1 X1 bel1 c1 HO hF
    have c1 := B2.cell 1
    go_wp2_with fail
    have kq0 := cell_regrown (B2.cell 1)
    have kq1 := cell_regrown (X2.cell 0)
    refine wp_region_quiet_below (by kernel_rfl) (by kernel_rfl) ?_
    repeat (any_goals (first | go_big_quiet_step (fail) | quiet_step (fail)))
    refine wpQuiet_nil ?_
    intro _ hw'
    obtain ⟨⟨dq, osq⟩, hw''⟩ := hw'
    subst hw''
    have hbq := below_regrown w2 dq osq
    clear kq0 kq1
    generalize grow (redrawn w2 dq) osq = w3 at *
    have B3 := B2.below hbq B2.lt
    have X3 := X2.below hbq X2.lt
    have bel3 := bel2.trans (hbq.mono (by have := bel2.size; omega))
    have own3 := Lib.hid (own_below own2.out hbq (fun k hk => by have := hvl k hk; have := X2.lt; omega))
    have hs3 := hbq.size
    clear hbq B2 X2 bel2 c1 own2
    have c1 := B3.cell 1
    have al := (Below.refl w3.heap.size w3).alloc (Nat.le_refl _) (.cells (prt x x) 193)
    have own4 := Lib.hid (own_below (w' := (w3.alloc (.cells (prt x x) 193)).drew) own3.out al.drew (fun k hk => by have := hvl k hk; have := X3.lt; omega))
    have B4 := B3.alloc (.cells (prt x x) 193)
    have c4 := B4.cell 1
    have V4 := Blk.new w3 193 (prt x x)
    have x0 : w3.cell? ⟨w.heap.size, 0, none⟩ = some (.int .u32 x) := X3.cell 0
    have hb4 : b0 ≤ (w3.alloc (.cells (prt x x) 193)).heap.size := by have := B4.lt; omega
    go_wp2_with fail
    go_region_law ((refine step_call2 (by rfl) 155 Try.f155 _ _ (by rfl) Try.func155 (by kernel_rfl) (by kernel_rfl) _ (by simp [Act.eval, Act.put]) (insert_first b0 w3.heap.size x _ _ own4.out V4 hb4) ?_; rintro e w5 ⟨h5, cap5, rfl, own5, hgrow, hat⟩; refine ⟨_, rfl, ?_⟩; have B5 : Blk w5 g 189 _ := (hgrow.block g B4.lt (Ne.symm hvg)).trans B4; have f5 := B5.frozen 1; have c5 := B5.cell 1))
    all_goals
      have hne5 : h5 ≠ g := by
        rcases hat with q | q
        · intro e; rw [e] at q; exact hvg q
        · have := B4.lt; simp at q this; omega
      have bel5 : Below b0 w w5 := ((bel3.alloc (by have := B3.lt; omega) _).drew).grown hgrow (by have := B4.lt; simp at this ⊢; omega) hvb
      have own6 : (w5.setCell ⟨g, 1, none⟩ (.slice (some ⟨h5, 0, none⟩) 1 cap5)).ownsRow b0 193 2 (.slice (some ⟨h5, 0, none⟩) 1 cap5) 1 (prt x x).toList := own_other own5 (fun k hk => by cases hk; exact Below.heap_setCell w5 ⟨g, 1, none⟩ _ h5 hne5)
      have B6 := B5.set_ 1 (.slice (some ⟨h5, 0, none⟩) 1 cap5)
      have bel6 := bel5.setCell (p := ⟨g, 1, none⟩) hg (.slice (some ⟨h5, 0, none⟩) 1 cap5)
      clear own5 own4 own3 hgrow hat B5 B4 c4 c5 f5 V4 al
      generalize w5.setCell ⟨g, 1, none⟩ (.slice (some ⟨h5, 0, none⟩) 1 cap5) = w6 at *
      have HO6 := Lib.hid own6
      clear own6
      go_wp2_with fail
      go_end0
      exact ⟨rfl, ⟨h5, cap5, hne5, B6, HO6.out⟩, bel6⟩
end Go.Proofs.Ythddacgdmngfhaa.gap
