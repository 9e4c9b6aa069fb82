/- Layer 4: a parameter has the document's bytes, and is read again; one that may not be has none. -/
import Derived.Test.YtlpklnjnfeodaaaAll
import Derived.Test.YtlpklnjnfeodaaaRef3C
namespace Go.Proofs.Ytlpklnjnfeodaaa.par
open Go.ChangeShapes Go.WideShapes Go.ChangeAt Go.RowKit kit oct
set_option maxRecDepth 100000

theorem rmay_any (t : Int) (s : ByteArray) (w : World) : Calls Try.prog 16 #[.agg #[.int .i64 t, .string s]] w fun e w' => e = .returned (.bool (mayP t s)) ∧ Below w.heap.size w w' := by
  rcases (by omega : t < 0 ∨ 65535 < t ∨ (0 ≤ t ∧ t ≤ 65535)) with h | h | ⟨h1, h2⟩
  · rw [mayP_no (by omega)]
    go_enter Try.func16, Try.ntmps16
    go_wp2
    go_ret
    exact ⟨rfl, (Below.refl _ _).alloc (Nat.le_refl _) _⟩
  · rw [mayP_no (by omega)]
    go_enter Try.func16, Try.ntmps16
    go_wp2
    go_ret
    exact ⟨rfl, (Below.refl _ _).alloc (Nat.le_refl _) _⟩
  · by_cases h3 : s.size ≤ 1000
    · rw [mayP_yes h1 h2 h3]
      go_enter Try.func16, Try.ntmps16
      go_wp2
      go_ret
      exact ⟨ret_bool (by simp; omega), (Below.refl _ _).alloc (Nat.le_refl _) _⟩
    · rw [mayP_no (by omega)]
      go_enter Try.func16, Try.ntmps16
      go_wp2
      go_ret
      exact ⟨ret_bool (by simp; omega), (Below.refl _ _).alloc (Nat.le_refl _) _⟩

theorem rput_any (t : Int) (s : ByteArray) (w : World) : Calls Try.prog 17 #[.agg #[.int .i64 t, .string s]] w fun e w' => e = .returned (.string (putP t s)) ∧ Below w.heap.size w w' := by
  unfold putP
  have hc := fun w => rmay_any t s w
  cases hm : mayP t s with
  | false =>
    rw [if_neg (by simp)]
    rw [hm] at hc
    clear hm
    go_enter Try.func17, Try.ntmps17
    go_wp2_with (go_at_call 16; refine (hc _).mono ?_; rintro e w1 ⟨rfl, hb⟩)
    go_ret
    exact ⟨rfl, ((Below.refl _ _).alloc (Nat.le_refl _) _).trans (hb.mono (by simp))⟩
  | true =>
    rw [if_pos rfl]
    rw [hm] at hc
    obtain ⟨h1, h2, h3⟩ := may_of hm
    clear hm
    have u1 : ∀ w, Calls Try.prog 36 #[.int .u64 t, .int .i64 2] w fun e w' => e = .returned (.string (p2 t)) ∧ Below w.heap.size w w' := fun w => put_at 2 t 2 w rfl (by omega) h1 (by omega)
    have u2 : ∀ w, Calls Try.prog 36 #[.int .u64 ((s.size : Int) + 4), .int .i64 2] w fun e w' => e = .returned (.string (p2 ((s.size : Int) + 4))) ∧ Below w.heap.size w w' := fun w => put_at 2 ((s.size : Int) + 4) 2 w rfl (by omega) (by omega) (by omega)
    have hs1 := p2_size t
    have hs2 := p2_size ((s.size : Int) + 4)
    have hw : IntKind.i64.wrap ((s.size : Int) + 4) = (s.size : Int) + 4 := IntWalk.i64_in _ (by omega)
    have hw2 : IntKind.u64.wrap ((s.size : Int) + 4) = (s.size : Int) + 4 := IntWalk.u64_in _ (by omega)
    have hw3 : IntKind.u64.wrap t = t := IntWalk.u64_in _ (by omega)
    have hf := fun w => rfilled (p2 t ++ p2 ((s.size : Int) + 4) ++ s) w (by simp; omega)
    have hf' : ∀ w, Calls Try.prog 56 #[.string (p2 t ++ p2 ((s.size : Int) + 4) ++ s)] w fun e w' => e = .returned (.string (filled (p2 t ++ p2 ((s.size : Int) + 4) ++ s))) ∧ Below w.heap.size w w' := fun w => (hf w).mono fun _ _ ⟨a, b⟩ => ⟨a, by rw [← b]; exact Below.refl _ _⟩
    have hs1' : (p2 t).size ≤ 2 := by omega
    have hs2' : (p2 ((s.size : Int) + 4)).size ≤ 2 := by omega
    clear hs1 hs2 hf
    go_enter Try.func17, Try.ntmps17
    go_wp2_with (go_at_call 16; refine (hc _).mono ?_; rintro e w1 ⟨rfl, hb⟩)
    have B1 := (Blk.new _ _ _).below hb (by simp)
    have bel1 : Below w.heap.size w w1 := ((Below.refl _ _).alloc (Nat.le_refl _) _).trans (hb.mono (by simp))
    have k0 := cell_regrown (B1.cell 0)
    have k1 := cell_regrown (B1.cell 1)
    clear hb
    refine wp_region_quiet_below (by kernel_rfl) (by kernel_rfl) ?_
    repeat (any_goals (first | go_big_quiet_step ((first | (go_at_call 36; first | (with_reducible exact Calls.regrown_of (u1 _)) | (with_reducible exact Calls.regrown_of (u2 _))) | (go_at_call 56; exact Calls.regrown_of (hf' _)))) | quiet_step ((first | (go_at_call 36; first | (with_reducible exact Calls.regrown_of (u1 _)) | (with_reducible exact Calls.regrown_of (u2 _))) | (go_at_call 56; exact Calls.regrown_of (hf' _))))))
    refine wpQuiet_nil ?_
    intro _ hw'
    obtain ⟨⟨dq, osq⟩, hw''⟩ := hw'
    subst hw''
    go_wp2
    go_ret
    exact ⟨rfl, bel1.trans ((below_regrown _ dq osq).mono bel1.size)⟩

set_option maxHeartbeats 2000000 in
theorem puts_law (t : Int) (s : ByteArray) (w : World) (hs : s.size ≤ maxLen) :
    Calls Try.prog 3 #[.agg #[.int .i64 t, .string s]] w fun e w' => e = .returned (.bool true) ∧ Below w.heap.size w w' := by
  unfold maxLen at hs
  go_enter Try.func3, Try.ntmps3
  go_upto_region 1 with fail
  go_cut [3] (fun s3 wx => s3 = .pointer (some ⟨w.heap.size + 1, 0, none⟩) ∧ ∃ T : ByteArray, T.size ≤ 1100 ∧ Blk wx (w.heap.size + 1) 23 #[.int .i64 t, .string T] ∧ Below w.heap.size w wx)
  case first =>
    have bel := (Below.refl w.heap.size w).alloc (Nat.le_refl _) (.cells #[.int .i64 t, .string s] 23)
    go_region
    all_goals
      go_wp2_with fail
      go_meet
      exact ⟨rfl, _, (by simp; omega), (blk_new2 _ _ _ _).drew, (bel.alloc (by simp) _).drew⟩
  case rest =>
  obtain ⟨rfl, T, hT, B, bel⟩ := hcut
  generalize w.heap.size + 1 = gx at *
  have C := fun i => B.cell i
  go_wp2_with fail
  refine (put_any t T _).mono ?_
  rintro e w1 ⟨rfl, hb1⟩
  have B1 := B.below hb1 B.lt
  have C1 := fun i => B1.cell i
  have bel1 := bel.trans (hb1.mono bel.size)
  clear C B bel hb1
  cases hm : mayP t T with
  | false =>
    have ep : putP t T = cat [] := by unfold putP; rw [if_neg (by rw [hm]; simp)]; rfl
    have hMay := fun w => may_any t T w
    have hRay := fun w => rmay_any t T w
    rw [hm] at hMay hRay
    rw [ep]
    clear ep hm
    have e0 : cat [] = ByteArray.empty := rfl
    have hA := fun w => all_list [] w (by simp) (by simp)
    rw [e0] at hA ⊢
    clear e0
    go_wp2_with fail
    refine (hA _).mono ?_
    rintro e w2 ⟨v, rfl, hown, hb2⟩
    have B2 := B1.below hb2 B1.lt
    have C2 := fun i => B2.cell i
    have bel2 := bel1.trans (hb2.mono bel1.size)
    clear hown hA C1
    go_wp2_with fail
    refine (hMay _).mono ?_
    rintro e w3 ⟨rfl, hb3⟩
    have B3 := B2.below hb3 B2.lt
    have bel3 := bel2.trans (hb3.mono bel2.size)
    clear C2
    go_wp2_with (go_at_call 15; refine (awake_any _).mono ?_; rintro e w4 ⟨rfl, hb4⟩; have B4 := B3.below hb4 B3.lt; have C4 := fun i => B4.cell i; have bel4 := bel3.trans (hb4.mono bel3.size))
    refine (hRay _).mono ?_
    rintro e w5 ⟨rfl, hb5⟩
    go_wp2_with fail
    go_ret
    exact ⟨rfl, bel4.trans (hb5.mono bel4.size)⟩
  | true =>
    have ep : putP t T = cat [(t, T)] := by simp only [cat]; apply ByteArray.ext; simp
    have hMay := fun w => may_any t T w
    have hRut := fun w => rput_any t T w
    rw [hm] at hMay
    rw [ep] at hRut ⊢
    have hA := fun w => all_list [(t, T)] w (by simp) (by intro p hp; simp at hp; subst hp; exact hm)
    have hsz := cat_size [(t, T)] (by intro p hp; simp at hp; subst hp; exact hm)
    simp only [List.length_cons, List.length_nil] at hsz
    clear ep hm
    generalize cat [(t, T)] = S at *
    go_wp2_with fail
    refine (hA _).mono ?_
    rintro e w2 ⟨v, rfl, hown, hb2⟩
    have hb2' := hb2
    obtain ⟨g, cap, rfl, hg1, hg2⟩ : ∃ g cap, v = .slice (some ⟨g, 0, none⟩) 1 cap ∧ w1.heap.size + 1 ≤ g ∧ w2.cell? ⟨g, 0, none⟩ = some (.int .i64 t) ∧ w2.cell? ⟨g, 1, none⟩ = some (.string T) := by
      have hown' := hown
      rcases hown'.2 with ⟨_, h0⟩ | ⟨g, cap, cur, rfl, hbg, _⟩
      · simp at h0
      · exact ⟨g, cap, rfl, hbg, (World.ownsRow.cellAt hown 0 (by simp)).trans rfl, (World.ownsRow.cellAt hown 1 (by simp)).trans rfl⟩
    obtain ⟨hg2, hg3⟩ := hg2
    have B2 := B1.below hb2 B1.lt
    have C2 := fun i => B2.cell i
    have bel2 := bel1.trans (hb2.mono bel1.size)
    clear hown hA C1 hb2 hb2'
    have HG2 := Lib.hid hg2
    have HG3 := Lib.hid hg3
    clear hg2 hg3
    go_wp2_with fail
    refine (hMay _).mono ?_
    rintro e w3 ⟨rfl, hb3⟩
    have B3 := B2.below hb3 B2.lt
    have bel3 := bel2.trans (hb3.mono bel2.size)
    have k0 := cell_regrown (B3.cell 0)
    have k1 := cell_regrown (B3.cell 1)
    have k2 := cell_regrown ((hb3.cell (p := ⟨g, 0, none⟩) (block_lt_of_cell HG2.out)).trans HG2.out)
    have k3 := cell_regrown ((hb3.cell (p := ⟨g, 1, none⟩) (block_lt_of_cell HG3.out)).trans HG3.out)
    clear C2 hb3
    go_upto_region 6 with fail
    refine wp_region_quiet_below (by kernel_rfl) (by kernel_rfl) ?_
    repeat (any_goals (first | go_big_quiet_step ((first | (go_at_call 15; exact Calls.regrown_of (awake_any _)) | (go_at_call 17; exact Calls.regrown_of (hRut _)))) | quiet_step ((first | (go_at_call 15; exact Calls.regrown_of (awake_any _)) | (go_at_call 17; exact Calls.regrown_of (hRut _))))))
    refine wpQuiet_nil ?_
    intro _ hw'
    obtain ⟨⟨dq, osq⟩, hw''⟩ := hw'
    subst hw''
    go_wp2
    go_ret
    exact ⟨rfl, bel3.trans ((below_regrown _ dq osq).mono bel3.size)⟩
end Go.Proofs.Ytlpklnjnfeodaaa.par
