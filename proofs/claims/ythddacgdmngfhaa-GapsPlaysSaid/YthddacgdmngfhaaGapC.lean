/- Layer 16: nobody got anything; the statement walked. -/
import Derived.Test.YthddacgdmngfhaaGapB
import Derived.Deep.RegionHeld3
namespace Go.Proofs.Ythddacgdmngfhaa.gap
open Go.Sort (grow)
open Go.ChangeShapes Go.WideShapes Go.ChangeAt Go.RowKit kit
set_option maxRecDepth 100000

theorem new_any (c : Int) (w : World) : Calls Try.prog 37 #[.int .u32 c] w fun e w' => e = .returned (.pointer (some ⟨w.heap.size, 0, none⟩)) ∧ w' = w.alloc (.cells #[.int .u32 c, .slice none 0 0, .slice none 0 0] 189) := by
  go_enter Try.func37, Try.ntmps37
  go_wp2
  go_ret
  exact ⟨rfl, rfl⟩
/-- Up to 1 all came, and nothing behind it. -/
def Past (b0 g : Nat) (d : Value) (w : World) : Prop := ∃ h cap, h ≠ g ∧ Blk w g 189 #[.int .u32 1, .slice (some ⟨h, 0, none⟩) 0 cap, d] ∧ w.ownsRow b0 193 2 (.slice (some ⟨h, 0, none⟩) 0 cap) 0 []
theorem add_1 (b0 g : Nat) (d : Value) (w : World) (B : Blk w g 189 #[.int .u32 0, .slice none 0 0, d]) (hg : b0 ≤ g) : Calls Try.prog 41 #[.pointer (some ⟨g, 0, none⟩), .int .u32 1] w fun e w' => e = .returned (.int .i64 1) ∧ Past b0 g d w' ∧ Below b0 w w' := by
  go_enter Try.func41, Try.ntmps41
  go_wp2_with fail
  refine (look_emp g 1 0 1 (.slice none 0 0) d (.inl rfl) (by omega) (by omega) diff_10 _ B).mono ?_
  rintro e w1 ⟨rfl, hb1⟩
  have B1 := B.below hb1 B.lt
  have bel1 : Below b0 w w1 := hb1.mono (by have := B.lt; omega)
  go_wp2_with fail
  refine (join_emp b0 g 1 0 (.slice none 0 0) d _ B1 (World.ownsRow_nil _ _ _ _) (by simp [Value.ownBlock]) (fun k hk => by cases hk) hg).mono ?_
  rintro e w2 ⟨rfl, O, hb2⟩
  have bel2 := bel1.trans hb2
  obtain ⟨h, cap, hne, B2, own2⟩ := O
  go_wp2_with fail
  refine (goOn_one b0 g h cap d _ B2 own2 (Ne.symm hne) hg).mono ?_
  rintro e w3 ⟨rfl, B3, own3, hb3⟩
  have P3 : Past b0 g d w3 := ⟨h, cap, hne, B3, own3⟩
  have bel3 := bel2.trans hb3
  clear B3 own3 own2 B2
  go_wp2_with fail
  go_ret
  exact ⟨rfl, P3, bel3⟩
theorem add_3 (b0 g : Nat) (d : Value) (w : World) (P : Past b0 g d w) (hg : b0 ≤ g) : Calls Try.prog 41 #[.pointer (some ⟨g, 0, none⟩), .int .u32 3] w fun e w' => e = .returned (.int .i64 1) ∧ OneP b0 g 1 3 d w' ∧ Below b0 w w' := by
  obtain ⟨h, cap, hne, B, own⟩ := P
  have hv : Emp (.slice (some ⟨h, 0, none⟩) 0 cap) := .inr ⟨h, cap, rfl⟩
  obtain ⟨cur, R, hbh, _⟩ := own_blk own
  go_enter Try.func41, Try.ntmps41
  have HO := Lib.hid own
  clear own
  go_wp2_with fail
  refine (look_emp g 3 1 2 _ d hv (by omega) (by omega) diff_31 _ B).mono ?_
  rintro e w1 ⟨rfl, hb1⟩
  have B1 := B.below hb1 B.lt
  have own1 := own_below HO.out hb1 (fun k hk => by cases hk; exact R.lt)
  have R1 := R.below hb1 R.lt
  have bel1 : Below b0 w w1 := hb1.mono (by have := B.lt; omega)
  have HO1 := Lib.hid own1
  clear own1
  go_wp2_with fail
  refine (join_emp b0 g 3 1 _ d _ B1 HO1.out (by simp [Value.ownBlock]; exact hne) (fun k hk => by cases hk; exact R1.lt) hg).mono ?_
  rintro e w2 ⟨rfl, O, hb2⟩
  have bel2 := bel1.trans hb2
  have HO2 := Lib.hid O
  obtain ⟨h2, cap2, hne2, B2, own2⟩ := O
  obtain ⟨_, _, _, hc1, hc2, _⟩ := own_blk own2
  have K2 : Cel w2 h2 0 (prt 3 3) := Cel.of_owns own2
  have R2 := K2.lt
  clear own2
  go_wp2_with fail
  refine (goOn_stay g h2 cap2 d _ B2 K2 hc1 hc2).mono ?_
  rintro e w3 ⟨rfl, hb3⟩
  have O3 : OneP b0 g 1 3 d w3 := by
    obtain ⟨h, cap, hne, B, own⟩ := HO2.out
    obtain ⟨cur, R, _⟩ := own_blk own
    exact ⟨h, cap, hne, B.below hb3 B.lt, own_below own hb3 (fun k hk => by cases hk; exact R.lt)⟩
  have bel3 := bel2.trans (hb3.mono (by have := B2.lt; omega))
  have HO3 := Lib.hid O3
  clear B2 K2 O3
  go_wp2_with fail
  go_ret
  exact ⟨rfl, HO3.out, bel3⟩
theorem cum_one (b0 g : Nat) (d : Value) (w : World) (O : OneP b0 g 1 3 d w) : Calls Try.prog 42 #[.pointer (some ⟨g, 0, none⟩)] w fun e w' => e = .returned (.int .u32 1) ∧ w = w' := by
  obtain ⟨h, cap, hne, B, own⟩ := O
  have c0 : w.cell? ⟨g, 0, none⟩ = some (.int .u32 1) := B.cell 0
  clear own
  go_enter Try.func42, Try.ntmps42
  go_wp2
  go_ret
  exact ⟨rfl, rfl⟩
theorem whole_one (b0 g : Nat) (d : Value) (w : World) (O : OneP b0 g 1 3 d w) : Calls Try.prog 43 #[.pointer (some ⟨g, 0, none⟩)] w fun e w' => e = .returned (.bool false) ∧ w = w' := by
  obtain ⟨h, cap, hne, B, own⟩ := O
  have c0 : w.cell? ⟨g, 1, none⟩ = some (.slice (some ⟨h, 0, none⟩) 1 cap) := B.cell 1
  clear own
  go_enter Try.func43, Try.ntmps43
  go_wp2
  go_ret
  exact ⟨rfl, rfl⟩
/-- A row of one. -/
def Row1 (e : Ending) : Prop := ∃ h cap, e = .returned (.slice (some ⟨h, 0, none⟩) 1 cap)
theorem infoG : (Try.prog.info? 133).map (fun i => (i.zero, i.size, i.bytes)) = some (some (.agg #[.int .i64 0, .int .i64 0]), 2, 16) := by kernel_rfl
set_option maxHeartbeats 1000000 in
theorem gaps_one (b0 g : Nat) (d : Value) (w : World) (O : OneP b0 g 1 3 d w) : Calls Try.prog 46 #[.pointer (some ⟨g, 0, none⟩)] w fun e w' => Row1 e ∧ Below w.heap.size w w' := by
  obtain ⟨h, cap, hne, B, own⟩ := O
  obtain ⟨_, _, _, hc1, hc2, _⟩ := own_blk own
  have K : Cel w h 0 (prt 3 3) := Cel.of_owns own
  unfold maxLen at hc2
  clear own
  have hD : ∀ w, Calls Try.prog 96 #[.int .u32 3, .int .u32 1] w fun e w' => e = .returned (.int .i64 2) ∧ Below w.heap.size w w' := fun w => (diff_31 w).mono fun e w' ⟨he, hw⟩ => ⟨he, hw ▸ Below.refl _ _⟩
  go_enter Try.func46, Try.ntmps46
  go_wp2_with fail
  have kq0 := cell_regrown (B.cell 1)
  refine wp_region_quiet_below (by kernel_rfl) (by kernel_rfl) ?_
  repeat (any_goals (first | go_big_quiet_step (fail) | quiet_step (fail)))
  refine wpQuiet_nil ?_
  intro _ hw'
  obtain ⟨⟨dq, osq⟩, hw''⟩ := hw'
  subst hw''
  have hbq := below_regrown w dq osq
  clear kq0
  generalize grow (redrawn w dq) osq = w1 at *
  have B1 := B.below hbq B.lt
  have K1 := K.below hbq K.lt
  have bel1 := hbq
  clear B K hbq
  have c0 := B1.cell 0
  have c1 := B1.cell 1
  have k0 := K1.cell0 0 rfl
  have k1 := K1.cell0 1 rfl
  go_wp2_with fail
  refine wp_loop_rounds 2 ?_
  rw [rounds_succ]
  go_wp2_with fail
  have B2 := B1.alloc (.cells (prt 3 3) 193)
  have N2 := Blk.new w1 193 (prt 3 3)
  have bel2 := bel1.alloc bel1.size (.cells (prt 3 3) 193)
  have hw1 := bel1.size
  clear B1 K1 bel1 c0 c1 k0 k1 hD
  generalize w1.alloc (.cells (prt 3 3) 193) = w2 at *
  have c0 : w2.cell? ⟨g, 0, none⟩ = some (.int .u32 1) := B2.cell 0
  have n0 : w2.cell? ⟨w1.heap.size, 0, none⟩ = some (.int .u32 3) := N2.cell 0
  have n1 : w2.cell? ⟨w1.heap.size, 1, none⟩ = some (.int .u32 3) := N2.cell 1
  obtain ⟨i0, hi, hz0, hz1, hz2⟩ := info_parts infoG
  have hs2 := bel2.size
  have lg := B2.lt
  have lp := N2.lt
  go_region_held3 (fun w' => w'.cell? ⟨g, 0, none⟩ = some (.int .u32 1) ∧ w'.cell? ⟨w1.heap.size, 0, none⟩ = some (.int .u32 3) ∧ w'.cell? ⟨w1.heap.size, 1, none⟩ = some (.int .u32 3))
    (first
      | go_keep
      | (go_split_ands
         refine ⟨?_, ?_, ?_⟩
         · (rw [hgrow.cell_far _ (by simp; omega) (by simp [Value.ownBlock])]; assumption)
         · (rw [hgrow.cell_far _ (by simp; omega) (by simp [Value.ownBlock])]; assumption)
         · (rw [hgrow.cell_far _ (by simp; omega) (by simp [Value.ownBlock])]; assumption)))
    ((first
      | (go_at_call 96; refine (diff_31 _).mono ?_; rintro e w' ⟨rfl, rfl⟩)
      | (refine step_append_lies _ (by rfl) _ _ _ (by rfl) 0 133 i0 (.agg #[.int .i64 0, .int .i64 0]) 2 16 Try.underlying37 hi hz0 hz1 hz2 rfl (by decide) (.slice none 0 0) 0 [] (by rfl) (World.ownsRow_nil _ _ _ _) ⟨w2.heap.size, 0, none⟩ 1 1 [.int .i64 2, .int .i64 2] (by rfl) (by rfl) (World.news_of_block (cs := #[.int .i64 2, .int .i64 2]) (heap_alloc_new _ _)) (by intro u hu; simp at hu; rcases hu with rfl | rfl <;> rfl) (by omega) (by unfold maxLen; omega) (by omega) (by omega) (w2.heap.size + 1) (by simp) ?_; intro h2 cap2 w8 hown8 hgrow hat hlt)))
  have bel8 : Below w.heap.size w w8 := ((bel2.alloc hs2 _).drew).grown hgrow (by simp; omega) (fun k hk => by simp [Value.ownBlock] at hk)
  clear hown8 hgrow
  go_wp2_with fail
  rw [rounds_succ]
  go_wp2_with fail
  go_ret
  exact ⟨⟨h2, cap2, rfl⟩, bel8⟩
theorem OneP.below {b0 g : Nat} {c x : Int} {d : Value} {w w' : World} (O : OneP b0 g c x d w) (hb : Below w.heap.size w w') : OneP b0 g c x d w' := by
  obtain ⟨h, cap, hne, B, own⟩ := O
  obtain ⟨cur, R, _⟩ := own_blk own
  exact ⟨h, cap, hne, B.below hb B.lt, own_below own hb (fun k hk => by cases hk; exact R.lt)⟩
theorem awake16_any (w : World) : Calls Try.prog 48 #[] w fun e w' => e = .returned (.bool true) ∧ Below w.heap.size w w' := by
  go_enter Try.func48, Try.ntmps48
  go_wp2_with fail
  refine (new_any 0 _).mono ?_
  rintro e w1 ⟨rfl, hw1⟩
  have B1 : Blk w1 w.heap.size 189 #[.int .u32 0, .slice none 0 0, .slice none 0 0] := by rw [hw1]; exact Blk.new _ _ _
  have bel1 : Below w.heap.size w w1 := by rw [hw1]; exact (Below.refl _ _).alloc (Nat.le_refl _) _
  clear hw1
  go_wp2_with fail
  refine (add_1 w.heap.size w.heap.size _ _ B1 (Nat.le_refl _)).mono ?_
  rintro e w2 ⟨rfl, P2, hb2⟩
  have bel2 := bel1.trans hb2
  have HP := Lib.hid P2
  clear P2 B1 bel1 hb2
  go_wp2_with fail
  refine (add_3 w.heap.size w.heap.size _ _ HP.out (Nat.le_refl _)).mono ?_
  rintro e w3 ⟨rfl, O3, hb3⟩
  have bel3 := bel2.trans hb3
  have HO := Lib.hid O3
  clear O3 HP bel2 hb3
  go_wp2_with fail
  refine (cum_one w.heap.size w.heap.size _ _ HO.out).mono ?_
  rintro e w4 ⟨rfl, rfl⟩
  go_wp2_with fail
  refine (gaps_one w.heap.size w.heap.size _ _ HO.out).mono ?_
  rintro e w5 ⟨⟨h, cap, rfl⟩, hb5⟩
  have HO5 := Lib.hid (HO.out.below hb5)
  have bel5 := bel3.trans (hb5.mono bel3.size)
  clear HO bel3 hb5
  go_wp2_with fail
  refine (whole_one w.heap.size w.heap.size _ _ HO5.out).mono ?_
  rintro e w6 ⟨rfl, rfl⟩
  go_wp2_with fail
  go_ret
  exact ⟨rfl, bel5⟩
end Go.Proofs.Ythddacgdmngfhaa.gap
