/- Layer 42: a storm made, of any weather. -/
import Derived.Test.YtdocphkpeonldaaStoE
import Derived.Test.YtdocphkpeonldaaKitP
import Derived.OwnWalk
import Derived.Deep.CutBlock
import Derived.Deep.DeepCutAuto
import Derived.Deep.RegionLaw
namespace Go.Proofs.Ytdocphkpeonldaa.storm
open Go.Sort (grow)
open Go.ChangeShapes Go.WideShapes Go.ChangeAt Go.RowKit kit
set_option maxRecDepth 100000

/-- Within 0 and 100. -/
def pc (n : Int) : Int := if n < 0 then 0 else if n ≤ 100 then n else 100
theorem pc_in (n : Int) : 0 ≤ pc n ∧ pc n ≤ 100 := by
  unfold pc
  split
  · omega
  · split <;> omega
theorem percent_gen (n : Int) (w : World) : Calls Try.prog 85 #[.int .i64 n] w fun e w' => e = .returned (.int .i64 (pc n)) ∧ w' = w := by
  by_cases h0 : n < 0
  · have e : pc n = 0 := by unfold pc; rw [if_pos h0]
    rw [e]
    clear e
    go_enter Try.func85, Try.ntmps85
    go_wp2
    all_goals
      go_ret
      exact ⟨by first | rfl | (refine ret_int ?_; omega) | (refine ret_int ?_; simp; omega), rfl⟩
  · by_cases h1 : n ≤ 100
    · have e : pc n = n := by unfold pc; rw [if_neg h0, if_pos h1]
      rw [e]
      exact (percent_any n w (by omega) h1).mono fun e w' ⟨he, hw⟩ => ⟨he, hw.symm⟩
    · have e : pc n = 100 := by unfold pc; rw [if_neg h0, if_neg h1]
      rw [e]
      clear e
      go_enter Try.func85, Try.ntmps85
      go_wp2
      all_goals
        go_ret
        exact ⟨by first | rfl | (refine ret_int ?_; omega) | (refine ret_int ?_; simp; omega), rfl⟩
set_option maxHeartbeats 4000000 in
theorem new_gen (x l d b m : Int) (w : World) : Calls Try.prog 31 #[.agg #[.int .u64 x, .int .i64 l, .int .i64 d, .int .i64 b, .int .i64 m]] w fun e w' => ∃ g k : Nat, e = .returned (.pointer (some ⟨g, 0, none⟩)) ∧ w.heap.size ≤ g ∧ w.heap.size ≤ k ∧ g ≠ k ∧ Blk w' g 160 (sr x (pc l) (pc d) (pc b) (pc m) k) ∧ Cnt Try.prog 162 w' k (fun _ => 0) ∧ Below w.heap.size w w' := by
  have hp := fun n w => percent_gen n w
  have hmk : ∀ w, (Instr.makeMap 158 none).run Try.prog w = .ok (.map (some w.heap.size)) (w.alloc (.map #[] 0)) := fun w => rfl
  go_enter Try.func31, Try.ntmps31
  go_wp2_with fail
  have B0 := Blk.new w 60 #[.int .u64 x, .int .i64 l, .int .i64 d, .int .i64 b, .int .i64 m]
  have bel0 := (Below.refl w.heap.size w).alloc (Nat.le_refl _) (.cells #[.int .u64 x, .int .i64 l, .int .i64 d, .int .i64 b, .int .i64 m] 60)
  generalize w.alloc (.cells #[.int .u64 x, .int .i64 l, .int .i64 d, .int .i64 b, .int .i64 m] 60) = w1 at *
  generalize hx : w.heap.size = r at *
  have c1 : w1.cell? ⟨r, 1, none⟩ = some (.int .i64 l) := B0.cell 1
  have c2 : w1.cell? ⟨r, 2, none⟩ = some (.int .i64 d) := B0.cell 2
  have c3 : w1.cell? ⟨r, 3, none⟩ = some (.int .i64 b) := B0.cell 3
  have c4 : w1.cell? ⟨r, 4, none⟩ = some (.int .i64 m) := B0.cell 4
  have e1 : w1.drew.cell? ⟨r, 1, none⟩ = some (.int .i64 l) := B0.cell 1
  have g1 : w1.drew.frozen? ⟨r, 1, none⟩ = false := B0.frozen 1
  have f1 : w1.frozen? ⟨r, 1, none⟩ = false := B0.frozen 1
  have e2 : w1.drew.cell? ⟨r, 2, none⟩ = some (.int .i64 d) := B0.cell 2
  have g2 : w1.drew.frozen? ⟨r, 2, none⟩ = false := B0.frozen 2
  have f2 : w1.frozen? ⟨r, 2, none⟩ = false := B0.frozen 2
  have e3 : w1.drew.cell? ⟨r, 3, none⟩ = some (.int .i64 b) := B0.cell 3
  have g3 : w1.drew.frozen? ⟨r, 3, none⟩ = false := B0.frozen 3
  have f3 : w1.frozen? ⟨r, 3, none⟩ = false := B0.frozen 3
  have e4 : w1.drew.cell? ⟨r, 4, none⟩ = some (.int .i64 m) := B0.cell 4
  have g4 : w1.drew.frozen? ⟨r, 4, none⟩ = false := B0.frozen 4
  have f4 : w1.frozen? ⟨r, 4, none⟩ = false := B0.frozen 4
  go_cut [1] (fun s1 wx => s1 = .pointer (some ⟨r, 0, none⟩) ∧ Blk wx r 60 #[.int .u64 x, .int .i64 (pc l), .int .i64 (pc d), .int .i64 (pc b), .int .i64 (pc m)] ∧ Below r w wx)
  case first =>
    refine wp_region_any (by kernel_rfl) ?_
    change wpAny _ _ _ _ _ _ _ (World.drew _)
    refine wpAny_take (i := 0) (v := ?_) rfl (by kernel_rfl) (by kernel_rfl) (by kernel_rfl) (fun _ _ _ h => h) (Or.inl ⟨by kernel_rfl, ?_⟩) ?_; rotate_left; (intro w; go_simp; try with_reducible rfl)
    refine wpAny_take (i := 3) (v := ?_) rfl (by kernel_rfl) (by kernel_rfl) (by kernel_rfl) (fun _ _ _ h => h) (Or.inl ⟨by kernel_rfl, ?_⟩) ?_; rotate_left; (intro w; go_simp; try with_reducible rfl)
    refine wpAny_take (i := 6) (v := ?_) rfl (by kernel_rfl) (by kernel_rfl) (by kernel_rfl) (fun _ _ _ h => h) (Or.inl ⟨by kernel_rfl, ?_⟩) ?_; rotate_left; (intro w; go_simp; try with_reducible rfl)
    refine wpAny_take (i := 9) (v := ?_) rfl (by kernel_rfl) (by kernel_rfl) (by kernel_rfl) (fun _ _ _ h => h) (Or.inl ⟨by kernel_rfl, ?_⟩) ?_; rotate_left; (intro w; go_simp; try with_reducible rfl)
    generalize hF : wpAny _ _ _ _ _ _ = F
    go_simp
    subst hF
    refine wpAny_of_C (S := fun w' => w' = w1.drew) (c := 11) _ _ _ _ ?_
    refine wpAnyC_take (i := 1) (v := .int .i64 l) [2, 5, 8] rfl (by kernel_rfl) (by kernel_rfl) (by kernel_rfl) (by kernel_rfl) (by kernel_rfl) (by decide) (fun _ _ _ h => h) rfl (Or.inl ⟨by kernel_rfl, ?_⟩) ?_
    · intro w' hw'
      subst hw'
      go_simp
    refine wpAnyC_take (i := 4) (v := .int .i64 d) [5, 8] rfl (by kernel_rfl) (by kernel_rfl) (by kernel_rfl) (by kernel_rfl) (by kernel_rfl) (by decide) (fun _ _ _ h => h) rfl (Or.inl ⟨by kernel_rfl, ?_⟩) ?_
    · intro w' hw'
      subst hw'
      go_simp
    refine wpAnyC_take (i := 7) (v := .int .i64 b) [8] rfl (by kernel_rfl) (by kernel_rfl) (by kernel_rfl) (by kernel_rfl) (by kernel_rfl) (by decide) (fun _ _ _ h => h) rfl (Or.inl ⟨by kernel_rfl, ?_⟩) ?_
    · intro w' hw'
      subst hw'
      go_simp
    refine wpAnyC_take (i := 10) (v := .int .i64 m) [] rfl (by kernel_rfl) (by kernel_rfl) (by kernel_rfl) (by kernel_rfl) (by kernel_rfl) (by decide) (fun _ _ _ h => h) rfl (Or.inl ⟨by kernel_rfl, ?_⟩) ?_
    · intro w' hw'
      subst hw'
      go_simp
    generalize hF : wpAnyC _ _ _ _ _ _ _ _ = F
    go_simp
    subst hF
    refine wpAnyC_one (k := 2) (by kernel_rfl) rfl (fun K hK => ?_)
    refine step_call (by rfl) 85 Try.f85 _ _ (by rfl) Try.func85 (by kernel_rfl) (by kernel_rfl) #[.int .i64 l] (by simp [Act.eval, Act.put]) (hp l _) ?_
    intro w6 hb6
    subst hb6
    refine hK _ _ (fun _ => rfl) ?_
    clear hK K
    refine wpAnyC_takeY (i := 12) (v := ?_) rfl (by kernel_rfl) (by kernel_rfl) (by kernel_rfl) (by decide) (fun _ _ _ h => h) rfl (Or.inl ⟨by kernel_rfl, ?_⟩) ?_; rotate_left; (intro w; go_simp; try with_reducible rfl)
    generalize hF : wpAnyC _ _ _ _ _ _ _ _ = F
    go_simp
    subst hF
    refine wpAnyC_one (k := 5) (by kernel_rfl) rfl (fun K hK => ?_)
    refine step_call (by rfl) 85 Try.f85 _ _ (by rfl) Try.func85 (by kernel_rfl) (by kernel_rfl) #[.int .i64 d] (by simp [Act.eval, Act.put]) (hp d _) ?_
    intro w6 hb6
    subst hb6
    refine hK _ _ (fun _ => rfl) ?_
    clear hK K
    refine wpAnyC_one (k := 8) (by kernel_rfl) rfl (fun K hK => ?_)
    refine step_call (by rfl) 85 Try.f85 _ _ (by rfl) Try.func85 (by kernel_rfl) (by kernel_rfl) #[.int .i64 b] (by simp [Act.eval, Act.put]) (hp b _) ?_
    intro w6 hb6
    subst hb6
    refine hK _ _ (fun _ => rfl) ?_
    clear hK K
    refine wpAnyC_one (k := 11) (by kernel_rfl) rfl (fun K hK => ?_)
    refine step_call (by rfl) 85 Try.f85 _ _ (by rfl) Try.func85 (by kernel_rfl) (by kernel_rfl) #[.int .i64 m] (by simp [Act.eval, Act.put]) (hp m _) ?_
    intro w6 hb6
    subst hb6
    refine hK _ _ (fun h => absurd rfl h) ?_
    clear hK K
    refine wpAnyC_of_any _ _ _ _ (by kernel_rfl) ?_
    generalize hF : wpAny _ _ _ _ _ _ = F
    go_simp
    subst hF
    refine wpAny_ready (rs := [13]) (by kernel_rfl) (by simp) ?_
    refine AllReady.cons rfl (fun K hK => ?_) AllReady.nil
    go_simp
    refine hK _ _ ?_
    clear hK K
    refine wpAny_take (i := 14) (v := ?_) rfl (by kernel_rfl) (by kernel_rfl) (by kernel_rfl) (fun _ _ _ h => h) (Or.inl ⟨by kernel_rfl, ?_⟩) ?_; rotate_left; (intro w; go_simp; try with_reducible rfl)
    refine wpAny_ready (rs := [15]) (by kernel_rfl) (by simp) ?_
    refine AllReady.cons rfl (fun K hK => ?_) AllReady.nil
    go_simp
    refine hK _ _ ?_
    clear hK K
    refine wpAny_take (i := 16) (v := ?_) rfl (by kernel_rfl) (by kernel_rfl) (by kernel_rfl) (fun _ _ _ h => h) (Or.inl ⟨by kernel_rfl, ?_⟩) ?_; rotate_left; (intro w; go_simp; try with_reducible rfl)
    refine wpAny_ready (rs := [17]) (by kernel_rfl) (by simp) ?_
    refine AllReady.cons rfl (fun K hK => ?_) AllReady.nil
    go_simp
    refine hK _ _ ?_
    clear hK K
    refine wpAny_take (i := 18) (v := ?_) rfl (by kernel_rfl) (by kernel_rfl) (by kernel_rfl) (fun _ _ _ h => h) (Or.inl ⟨by kernel_rfl, ?_⟩) ?_; rotate_left; (intro w; go_simp; try with_reducible rfl)
    refine wpAny_ready (rs := [19]) (by kernel_rfl) (by simp) ?_
    refine AllReady.cons rfl (fun K hK => ?_) AllReady.nil
    go_simp
    refine hK _ _ ?_
    clear hK K
    refine wpAny_done (by kernel_rfl) ?_ _
    go_wp2_with fail
    go_meet
    exact ⟨rfl, ((((B0.drew.set_ 1 (.int .i64 (pc l))).set_ 2 (.int .i64 (pc d))).set_ 3 (.int .i64 (pc b))).set_ 4 (.int .i64 (pc m))), (((bel0.drew.setCell (p := ⟨r, 1, none⟩) (Nat.le_refl _) (.int .i64 (pc l))).setCell (p := ⟨r, 2, none⟩) (Nat.le_refl _) (.int .i64 (pc d))).setCell (p := ⟨r, 3, none⟩) (Nat.le_refl _) (.int .i64 (pc b))).setCell (p := ⟨r, 4, none⟩) (Nat.le_refl _) (.int .i64 (pc m))⟩
  case rest =>
  obtain ⟨rfl, B2, bel2⟩ := hcut
  have C := fun i => B2.cell i
  go_wp2_with fail
  go_ret
  exact ⟨wc.heap.size + 1, wc.heap.size, rfl, by have := bel2.size; omega, by have := bel2.size; omega, by omega, blk_new2 _ _ _ _, (Cnt.new wc).below ((Below.refl _ _).alloc (Nat.le_refl _) _) (by simp), by first | exact (bel2.alloc (by have := bel2.size; omega) _).alloc (by simp; have := bel2.size; omega) _ | (rw [hx]; exact (bel2.alloc (by have := bel2.size; omega) _).alloc (by simp; have := bel2.size; omega) _)⟩
end Go.Proofs.Ytdocphkpeonldaa.storm
