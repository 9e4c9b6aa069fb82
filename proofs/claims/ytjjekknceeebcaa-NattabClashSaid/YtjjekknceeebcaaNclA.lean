/- Layer 11: one entry of a table, and a second one of the same key; whatever entries. -/
import Derived.Test.YtjjekknceeebcaaRows
import Derived.Test.YtjjekknceeebcaaKitB
import Derived.Outline
import Derived.OwnWalk
import Derived.BigQuiet
import Derived.LoopTactic
import Derived.Deep.CutBlock
import Derived.Deep.DeepCutAuto
import Derived.Deep.RegionWith
import Derived.BigRegion
import Derived.Deep.AppendLies
import Derived.Deep.RegionHeldLaw
import Derived.RegionTactic
import Derived.Deep.RegionLaw
namespace Go.Proofs.Ytjjekknceeebcaa.nat
open Go.ChangeShapes Go.WideShapes Go.ChangeAt Go.RowKit kit
set_option maxRecDepth 100000

/-- An entry's cells. -/
abbrev en (a b c d i o s : Int) : Array Value := #[.int .u32 a, .int .i64 b, .int .u32 c, .int .i64 d, .int .u32 i, .int .u32 o, .int .i64 s]
theorem endsOf_any (a b c d i o s : Int) (w : World) : Calls Try.prog 113 #[.agg (en a b c d i o s)] w fun e w' => e = .returned (.agg #[.int .u32 c, .int .i64 d, .int .i64 b]) ∧ Below w.heap.size w w' := by
  go_enter Try.func113, Try.ntmps113
  go_wp2_with fail
  exact bodyPost_ret (v := .agg #[.int .u32 c, .int .i64 d, .int .i64 b]) (by simp [results, Try.results113, go_sem] <;> rfl) rfl ⟨rfl, by repeat (first | exact Below.refl _ _ | (refine Below.alloc ?_ (by simp; try omega) _) | (refine Below.setCell ?_ (by simp) _) | (refine Below.drew ?_))⟩
theorem keyOf_any (a b c d i o s : Int) (w : World) : Calls Try.prog 60 #[.agg (en a b c d i o s)] w fun e w' => e = .returned (.agg #[.int .u32 c, .int .i64 d, .int .i64 b, .int .u32 i]) ∧ Below w.heap.size w w' := by
  go_enter Try.func60, Try.ntmps60
  go_wp2_with fail
  have N1 : Blk ((w.alloc (.cells (en a b c d i o s) 25)).alloc (.cells #[.int .u32 0, .int .i64 0, .int .i64 0, .int .u32 0] 115)) w.heap.size 25 (en a b c d i o s) := (Blk.new _ _ _).alloc _
  have N2 := blk_new2 w (.cells (en a b c d i o s) 25) 115 #[.int .u32 0, .int .i64 0, .int .i64 0, .int .u32 0]
  have bel := ((Below.refl w.heap.size w).alloc (Nat.le_refl _) (.cells (en a b c d i o s) 25)).alloc (by simp) (.cells #[.int .u32 0, .int .i64 0, .int .i64 0, .int .u32 0] 115)
  have hzz : ((w.alloc (.cells (en a b c d i o s) 25)).alloc (.cells #[.int .u32 0, .int .i64 0, .int .i64 0, .int .u32 0] 115)).heap.size = w.heap.size + 2 := by simp
  generalize (w.alloc (.cells (en a b c d i o s) 25)).alloc (.cells #[.int .u32 0, .int .i64 0, .int .i64 0, .int .u32 0] 115) = w0 at *
  have C := fun i => N1.cell i
  have C2 := fun i => N2.cell i
  have F2 := fun i => N2.frozen i
  go_region_with (go_at_call 113; refine (endsOf_any a b c d i o s _).mono ?_; rintro e w1 ⟨rfl, hb1⟩; have M1 := (Blk.drew N1).below hb1 N1.lt; have M2 := (Blk.drew N2).below hb1 N2.lt; have D := fun i => M1.cell i; have D2 := fun i => M2.cell i; have G2 := fun i => M2.frozen i)
  all_goals
    have bel1 := bel.drew.trans (hb1.mono bel.size)
    have hlt := M2.lt
    go_wp2_with fail
    exact bodyPost_ret (v := .agg #[.int .u32 c, .int .i64 d, .int .i64 b, .int .u32 i]) (by simp [results, Try.results60, go_sem, D2, G2, hlt] <;> rfl) rfl ⟨rfl, ((((bel1.setCell (by simp) _).setCell (by simp) _).setCell (by simp) _).setCell (by simp) _)⟩
theorem new_3 (w : World) : Calls Try.prog 11 #[.int .i64 3] w fun e w' => e = .returned (.pointer (some ⟨w.heap.size, 0, none⟩)) ∧ w' = w.alloc (.cells #[.int .i64 3, .slice none 0 0] 110) := by
  go_enter Try.func11, Try.ntmps11
  go_wp2_with fail
  go_ret
  exact ⟨rfl, rfl⟩
theorem new_9 (w : World) : Calls Try.prog 11 #[.int .i64 9] w fun e w' => e = .returned (.pointer (some ⟨w.heap.size, 0, none⟩)) ∧ w' = w.alloc (.cells #[.int .i64 9, .slice none 0 0] 110) := by
  go_enter Try.func11, Try.ntmps11
  go_wp2_with fail
  go_ret
  exact ⟨rfl, rfl⟩
theorem idx_nil (v : Value) (w : World) : Calls Try.prog 112 #[.slice none 0 0, v] w fun e w' => e = .returned (.int .i64 (-1)) ∧ Below w.heap.size w w' := by
  go_enter Try.func112, Try.ntmps112
  go_wp2
  refine wp_loop_rounds 1 ?_
  rw [rounds_succ]
  go_wp2
  go_ret
  exact ⟨rfl, Below.refl _ _⟩
theorem find_fresh (g : Nat) (m : Int) (v : Value) (w : World) (B : Blk w g 110 #[.int .i64 m, .slice none 0 0]) : Calls Try.prog 58 #[.pointer (some ⟨g, 0, none⟩), v] w fun e w' => e = .returned (.int .i64 (-1)) ∧ Below w.heap.size w w' := by
  have C := fun i => B.cell i
  go_enter Try.func58, Try.ntmps58
  go_wp2_with fail
  refine (idx_nil _ _).mono ?_
  rintro e w1 ⟨rfl, hb1⟩
  go_wp2_with fail
  go_ret
  exact ⟨rfl, hb1⟩
theorem infoE : (Try.prog.info? 25).map (fun i => (i.zero, i.size, i.bytes)) = some (some (.agg (en 0 0 0 0 0 0 0)), 7, 48) := by kernel_rfl
/-- A table of one entry. -/
def OneAt (g : Nat) (m : Int) (E : Array Value) (w : World) : Prop := ∃ h cap, Blk w g 110 #[.int .i64 m, .slice (some ⟨h, 0, none⟩) 1 cap] ∧ g < h ∧ 1 ≤ cap ∧ cap ≤ maxLen ∧ Cel w h 0 E
theorem OneAt.below {g : Nat} {m : Int} {E : Array Value} {w w' : World} (O : OneAt g m E w) (hb : Below w.heap.size w w') : OneAt g m E w' := by
  obtain ⟨h, cap, B, hne, hc, hcm, hR⟩ := O
  exact ⟨h, cap, B.below hb B.lt, hne, hc, hcm, hR.below hb hR.lt⟩
theorem OneAt.drew {g : Nat} {m : Int} {E : Array Value} {w : World} (O : OneAt g m E w) : OneAt g m E w.drew := O
theorem OneAt.lt {g : Nat} {m : Int} {E : Array Value} {w : World} (O : OneAt g m E w) : g < w.heap.size := by obtain ⟨_, _, B, _⟩ := O; exact B.lt
set_option maxHeartbeats 1000000 in
theorem add_first (g : Nat) (m a b c d i o s : Int) (hm : 1 ≤ m) (hi0 : (i == 0) = false) (w : World) (B : Blk w g 110 #[.int .i64 m, .slice none 0 0]) : Calls Try.prog 13 #[.pointer (some ⟨g, 0, none⟩), .agg (en a b c d i o s)] w fun e w' => e = .returned (.int .i64 0) ∧ OneAt g m (en a b c d i o s) w' ∧ Below g w w' ∧ Only g w w' := by
  obtain ⟨i0, hi, hz0, hz1, hz2⟩ := info_parts infoE
  have C0 := fun i => B.cell i
  have hg0 := B.lt
  have hm1 : decide (m ≤ 0) = false := decide_eq_false (by omega)
  have hm2 : decide (0 ≥ m) = false := decide_eq_false (by omega)
  go_enter Try.func13, Try.ntmps13
  go_wp2_with fail
  refine (find_fresh g m _ _ (B.alloc _)).mono ?_
  rintro e w1 ⟨rfl, hb1⟩
  have B1 := (B.alloc (.cells (en a b c d i o s) 25)).below hb1 (by simp; omega)
  have E1 := (Blk.new w 25 (en a b c d i o s)).below hb1 (by simp)
  have bel1 : Below w.heap.size w w1 := ((Below.refl _ _).alloc (Nat.le_refl _) _).trans (hb1.mono (by simp))
  have bel : Below g w w1 := bel1.mono (by omega)
  have C := fun i => B1.cell i
  have F := fun i => B1.frozen i
  have CE := fun i => E1.cell i
  have hg1 := B1.lt
  have hx1 := E1.lt
  have bel1s : w.heap.size ≤ w1.heap.size := bel1.size
  have on1 : Only g w w1 := Only.of_below bel1
  clear hb1 bel1
  go_wp2_with fail
  go_region
  all_goals
    go_wp2_with fail
    go_region_law ((refine step_append_lies _ (by rfl) _ _ _ (by rfl) g 25 i0 (.agg (en 0 0 0 0 0 0 0)) 7 48 Try.underlying108 hi hz0 hz1 hz2 rfl (by decide) (.slice none 0 0) 0 [] (by rfl) (World.ownsRow_nil _ _ _ _) ⟨w1.heap.size, 0, none⟩ 1 1 (en a b c d i o s).toList (by rfl) rfl (World.news_of_block (heap_alloc_new _ _)) (by intro u hu; simp at hu; rcases hu with rfl | rfl | rfl | rfl | rfl | rfl | rfl <;> rfl) (by omega) (by unfold maxLen; omega) (by omega) (by simp; omega) (w1.heap.size + 1) (by simp) ?_; intro h cap w8 hown8 hgrow hat hlt; have B8 : Blk w8 g 110 #[.int .i64 m, .slice none 0 0] := (hgrow.block g (by simp; omega) (by simp [Value.ownBlock])).trans (Blk.alloc B1 (.cells (en a b c d i o s) 25)); have C8 := fun i => B8.cell i; have F8 := fun i => B8.frozen i))
  all_goals
    go_wp2_with fail
    go_ret
    have hh : h = w1.heap.size + 1 := hat.resolve_left (by simp [Value.ownBlock])
    have bel8 : Below g w w8 := (((bel.alloc (Nat.le_trans (Nat.le_of_lt hg0) bel1s) (.cells (en a b c d i o s) 25)).drew).drew).grown hgrow (by simp; omega) (fun k hk => by simp [Value.ownBlock] at hk)
    have hne : g < h := by omega
    have hcap : 1 ≤ cap ∧ cap ≤ maxLen := by
      rcases hown8.2 with ⟨q, _⟩ | ⟨g', cap', cur, q, _, _, q1, q2, _⟩
      · simp at q
      · simp at q
        obtain ⟨rfl, rfl⟩ := q
        exact ⟨by omega, q2⟩
    have K8 : Cel w8 h 0 (en a b c d i o s) := (Cel.of_owns hown8).congr (by simp)
    have on8 : Only g w w8 := ⟨Nat.le_trans bel1s (Nat.le_trans (by simp) hgrow.size), fun k hk hkg => (hgrow.block k (by simp; omega) (by simp [Value.ownBlock])).trans ((Below.heap_alloc w1 _ k (by omega)).trans (on1.block k hk hkg))⟩
    exact ⟨rfl, ⟨h, cap, B8.set_ 1 _, hne, hcap.1, hcap.2, K8.far (p := ⟨g, 1, none⟩) (Nat.ne_of_gt hne) _⟩, bel8.setCell (Nat.le_refl _) _, on8.setCell 1 _⟩
theorem cl_add (q : Nat) (a b c d i o s x y z : Int) (w : World) (E : Blk w q 25 (en x b c d i y z)) : Calls Try.prog 59 #[.agg (en a b c d i o s), .pointer (some ⟨q, 0, none⟩)] w fun e w' => e = .returned (.bool true) ∧ Below w.heap.size w w' := by
  have h1 := fun w => keyOf_any a b c d i o s w
  have h2 := fun w => keyOf_any x b c d i y z w
  go_enter Try.func59, Try.ntmps59
  have N := Blk.new w 25 (en a b c d i o s)
  have E1 := E.alloc (.cells (en a b c d i o s) 25)
  have bel := (Below.refl w.heap.size w).alloc (Nat.le_refl _) (.cells (en a b c d i o s) 25)
  go_wp2_with fail
  generalize w.alloc (.cells (en a b c d i o s) 25) = w1 at *
  have k0 := cell_regrown (N.cell 0)
  have l0 := cell_regrown (E1.cell 0)
  have k1 := cell_regrown (N.cell 1)
  have l1 := cell_regrown (E1.cell 1)
  have k2 := cell_regrown (N.cell 2)
  have l2 := cell_regrown (E1.cell 2)
  have k3 := cell_regrown (N.cell 3)
  have l3 := cell_regrown (E1.cell 3)
  have k4 := cell_regrown (N.cell 4)
  have l4 := cell_regrown (E1.cell 4)
  have k5 := cell_regrown (N.cell 5)
  have l5 := cell_regrown (E1.cell 5)
  have k6 := cell_regrown (N.cell 6)
  have l6 := cell_regrown (E1.cell 6)
  refine wp_region_quiet_below (by kernel_rfl) (by kernel_rfl) ?_
  repeat (any_goals (first | go_big_quiet_step ((go_at_call 60; first | (with_reducible exact Calls.regrown_of (h1 _)) | (with_reducible exact Calls.regrown_of (h2 _)))) | quiet_step ((go_at_call 60; first | (with_reducible exact Calls.regrown_of (h1 _)) | (with_reducible exact Calls.regrown_of (h2 _))))))
  refine wpQuiet_nil ?_
  intro _ hw'
  obtain ⟨⟨dq, osq⟩, hw''⟩ := hw'
  subst hw''
  go_wp2
  go_ret
  exact ⟨rfl, bel.trans ((below_regrown _ dq osq).mono bel.size)⟩
theorem refresh_clash (h : Nat) (a b c d i x y z : Int) (hx : (a == x) = false) (w : World) (c0 : w.cell? ⟨h, 0, none⟩ = some (.int .u32 a)) : Calls Try.prog 61 #[.pointer (some ⟨h, 0, none⟩), .agg (en x b c d i y z)] w fun e w' => e = .returned (.int .i64 110) ∧ Below w.heap.size w w' := by
  have c1 := (World.cell?_alloc_lt w (.cells (en x b c d i y z) 25) ⟨h, 0, none⟩ (block_lt_of_cell c0)).trans c0
  have bel := (Below.refl w.heap.size w).alloc (Nat.le_refl _) (.cells (en x b c d i y z) 25)
  have N := Blk.new w 25 (en x b c d i y z)
  have C := fun i => N.cell i
  have hx2 : (a != x) = true := by simpa [bne] using hx
  go_enter Try.func61, Try.ntmps61
  go_wp2_with fail
  generalize w.alloc (.cells (en x b c d i y z) 25) = w1 at *
  go_region
  all_goals
    go_wp2_with fail
    go_ret
    exact ⟨rfl, bel.drew⟩
theorem len_one (g : Nat) (m : Int) (E : Array Value) (w : World) (O : OneAt g m E w) : Calls Try.prog 15 #[.pointer (some ⟨g, 0, none⟩)] w fun e w' => e = .returned (.int .i64 1) ∧ Below w.heap.size w w' := by
  obtain ⟨h, cap, B, _⟩ := O
  have C := fun i => B.cell i
  go_enter Try.func15, Try.ntmps15
  go_wp2_with fail
  go_ret
  exact ⟨rfl, Below.refl _ _⟩
theorem idx_one (h q cap : Nat) (a b c d i o s x y z : Int) (w : World) (E : Blk w q 25 (en x b c d i y z)) (hc : 1 ≤ cap) (hcm : cap ≤ maxLen) (hR : Cel w h 0 (en a b c d i o s)) :
    Calls Try.prog 112 #[.slice (some ⟨h, 0, none⟩) 1 cap, .func (.func 59) #[] #[.pointer (some ⟨q, 0, none⟩)]] w fun e w' => e = .returned (.int .i64 0) ∧ Below w.heap.size w w' := by
  unfold maxLen at hcm
  have r0 := hR.cell0 0 rfl
  have r1 := hR.cell0 1 rfl
  have r2 := hR.cell0 2 rfl
  have r3 := hR.cell0 3 rfl
  have r4 := hR.cell0 4 rfl
  have r5 := hR.cell0 5 rfl
  have r6 := hR.cell0 6 rfl
  clear hR
  go_enter Try.func112, Try.ntmps112
  go_wp2
  refine wp_loop_rounds 1 ?_
  rw [rounds_succ]
  go_wp2_with fail
  refine (cl_add q a b c d i o s x y z _ E).mono ?_
  rintro e w1 ⟨rfl, hb1⟩
  go_wp2_with fail
  go_ret
  exact ⟨rfl, hb1⟩
theorem find_one (g q : Nat) (m a b c d i o s x y z : Int) (w : World) (O : OneAt g m (en a b c d i o s) w) (E : Blk w q 25 (en x b c d i y z)) : Calls Try.prog 58 #[.pointer (some ⟨g, 0, none⟩), .func (.func 59) #[] #[.pointer (some ⟨q, 0, none⟩)]] w fun e w' => e = .returned (.int .i64 0) ∧ Below w.heap.size w w' := by
  obtain ⟨h, cap, B, _, hc, hcm, hR⟩ := O
  have hI := idx_one h q cap a b c d i o s x y z w E hc hcm hR
  have C := fun i => B.cell i
  clear hR
  go_enter Try.func58, Try.ntmps58
  go_wp2_with fail
  refine hI.mono ?_
  rintro e w1 ⟨rfl, hb1⟩
  go_wp2_with fail
  go_ret
  exact ⟨rfl, hb1⟩
theorem add_second (g : Nat) (m a b c d i o s x y z : Int) (hi0 : (i == 0) = false) (hx : (a == x) = false) (w : World) (O : OneAt g m (en a b c d i o s) w) : Calls Try.prog 13 #[.pointer (some ⟨g, 0, none⟩), .agg (en x b c d i y z)] w fun e w' => e = .returned (.int .i64 110) ∧ Below w.heap.size w w' := by
  have bel := (Below.refl w.heap.size w).alloc (Nat.le_refl _) (.cells (en x b c d i y z) 25)
  have N := Blk.new w 25 (en x b c d i y z)
  have O1 := O.below bel
  have hF := find_one g w.heap.size m a b c d i o s x y z _ O1 N
  have C0 := fun i => N.cell i
  obtain ⟨_, _, B0, _⟩ := O
  have CB := fun i => B0.cell i
  go_enter Try.func13, Try.ntmps13
  go_wp2_with fail
  refine hF.mono ?_
  rintro e w1 ⟨rfl, hb1⟩
  have O2 := O1.below hb1
  have N2 := N.below hb1 N.lt
  have bel1 := bel.trans (hb1.mono bel.size)
  clear hF O1 N bel C0 hb1
  obtain ⟨h, cap, B, hne, hc, hcm, hR⟩ := O2
  unfold maxLen at hcm
  have r0 := hR.cell0 0 rfl
  have C := fun i => B.cell i
  have CN := fun i => N2.cell i
  have hRf := fun w c0 => refresh_clash h a b c d i x y z hx w c0
  go_wp2_with fail
  go_region_with (go_at_call 61; refine (hRf _ ?_).mono ?_; exact r0; rintro e w3 ⟨rfl, hb3⟩)
  all_goals
    go_wp2_with fail
    go_ret
    exact ⟨rfl, bel1.drew.trans (hb3.mono bel1.size)⟩
theorem has0_one (g : Nat) (m : Int) (E : Array Value) (w : World) (O : OneAt g m E w) : Calls Try.prog 62 #[.pointer (some ⟨g, 0, none⟩), .int .i64 0] w fun e w' => e = .returned (.bool true) ∧ Below w.heap.size w w' := by
  go_enter Try.func62, Try.ntmps62
  go_wp2_with fail
  refine (len_one g m E _ O).mono ?_
  rintro e w1 ⟨rfl, hb1⟩
  go_wp2_with fail
  go_ret
  exact ⟨rfl, hb1⟩
end Go.Proofs.Ytjjekknceeebcaa.nat
