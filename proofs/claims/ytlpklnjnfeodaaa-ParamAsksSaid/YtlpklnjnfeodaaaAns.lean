/- Layer 4: answers say of which request, and whether it was done. -/
import Derived.Test.YtlpklnjnfeodaaaTagL
import Derived.Test.YtlpklnjnfeodaaaReadsA
namespace Go.Proofs.Ytlpklnjnfeodaaa.par
open Go.ChangeShapes Go.WideShapes Go.ChangeAt Go.RowKit kit oct
set_option maxRecDepth 100000

theorem str_nil {s : ByteArray} (h : s.size = 0) : s = ByteArray.empty := by
  apply ByteArray.ext
  apply Array.eq_empty_of_size_eq_zero
  exact h
def answerT (s : ByteArray) : Int := if s.size = 0 then 49157 else 49155
theorem answer_any (a : Int) (s : ByteArray) (w : World) (ha : 0 ≤ a) (ha' : a ≤ 4294967295) (hs : s.size ≤ 1000) :
    Calls Try.prog 25 #[.int .u32 a, .string s] w fun e w' => e = .returned (.agg #[.int .i64 (answerT s), .string (p4 a ++ s)]) ∧ Below w.heap.size w w' := by
  have hz : (p4 a).size ≤ 4 := by rw [p4_size]; omega
  by_cases h : s.size = 0
  · have e1 : answerT s = 49157 := if_pos h
    obtain rfl := str_nil h
    have e2 : p4 a ++ ByteArray.empty = p4 a := by apply ByteArray.ext; simp
    rw [e1, e2]
    clear e1 e2 h
    go_enter Try.func25, Try.ntmps25
    go_wp2_with (go_at_call 23; refine (u32_p a _ ha ha').mono ?_; rintro e w1 ⟨rfl, hb⟩; have B1 := (Blk.new _ _ _).below hb (by simp); have C1 := fun i => B1.cell i; have F1 := fun i => B1.frozen i; have hz1 : w.heap.size < w1.heap.size := (by have := hb.size; simp at this; omega))
    exact bodyPost_ret (v := .agg #[.int .i64 49157, .string (p4 a)]) (by simp [results, Try.results25, go_sem, C1, F1, hz1] <;> rfl) rfl ⟨rfl, ((((Below.refl w.heap.size w).alloc (Nat.le_refl _) _).trans (hb.mono (by simp))).setCell (by simp) _).setCell (by simp) _⟩
  · have e1 : answerT s = 49155 := if_neg h
    have hne : s.toList.isEmpty = false := by
      rw [List.isEmpty_eq_false_iff, Lib.toList_data]
      intro q
      apply h
      rw [← len_data, q]; rfl
    rw [e1]
    clear e1 h
    go_enter Try.func25, Try.ntmps25
    go_wp2_with (go_at_call 23; refine (u32_p a _ ha ha').mono ?_; rintro e w1 ⟨rfl, hb⟩; have B1 := (Blk.new _ _ _).below hb (by simp); have C1 := fun i => B1.cell i; have F1 := fun i => B1.frozen i; have hz1 : w.heap.size < w1.heap.size := (by have := hb.size; simp at this; omega))
    exact bodyPost_ret (v := .agg #[.int .i64 49155, .string (p4 a ++ s)]) (by simp [results, Try.results25, go_sem, C1, F1, hz1] <;> rfl) rfl ⟨rfl, ((((Below.refl w.heap.size w).alloc (Nat.le_refl _) _).trans (hb.mono (by simp))).setCell (by simp) _).setCell (by simp) _⟩

/-- one of an answer -/
theorem asAnswer_yes (t : Int) (d : Bool) (s : ByteArray) (w : World) (hs : s.size ≤ maxLen) (h : (t = 49157 ∧ s.size = 4 ∧ d = true) ∨ (t = 49155 ∧ 4 < s.size ∧ d = false)) :
    Calls Try.prog 24 #[.agg #[.int .i64 t, .string s]] w fun e w' => e = .returned (.tuple #[.int .u32 (rdN s 4), .bool d, .bool true]) ∧ Below w.heap.size w w' := by
  have hlt := rdN_lt s 4 (by omega)
  rcases h with ⟨rfl, h, rfl⟩ | ⟨rfl, h, rfl⟩
  · have x : ((s.size : Int) == 4) = true := by simp; omega
    clear h
    go_enter Try.func24, Try.ntmps24
    go_wp2_with (go_at_call 51; refine (new_any _ _).mono ?_; rintro e w1 ⟨rfl, rfl⟩)
    refine (r32_any (w.heap.size + 1) s 0 _ (blk_new2 w _ _ _) hs).mono ?_
    rintro e w2 ⟨rfl, hr, ht⟩
    go_wp2_with fail
    go_ret3
    exact ⟨rfl, ht.below (((Below.refl w.heap.size w).alloc (Nat.le_refl _) _).alloc (by simp) _) (by omega) (by simp; omega)⟩
  · have x : decide ((4 : Int) < (s.size : Int)) = true := by simp; omega
    clear h
    go_enter Try.func24, Try.ntmps24
    go_wp2_with (go_at_call 51; refine (new_any _ _).mono ?_; rintro e w1 ⟨rfl, rfl⟩)
    refine (r32_any (w.heap.size + 1) s 0 _ (blk_new2 w _ _ _) hs).mono ?_
    rintro e w2 ⟨rfl, hr, ht⟩
    go_wp2_with fail
    go_ret3
    exact ⟨rfl, ht.below (((Below.refl w.heap.size w).alloc (Nat.le_refl _) _).alloc (by simp) _) (by omega) (by simp; omega)⟩
theorem asAnswer_no (t : Int) (s : ByteArray) (w : World) (h : ¬ (t = 49157 ∧ s.size = 4)) (h' : ¬ (t = 49155 ∧ 4 < s.size)) :
    Calls Try.prog 24 #[.agg #[.int .i64 t, .string s]] w fun e w' => e = .returned (.tuple #[.int .u32 0, .bool false, .bool false]) ∧ Below w.heap.size w w' := by
  rcases (by omega : t = 49157 ∨ t = 49155 ∨ (t ≠ 49157 ∧ t ≠ 49155)) with rfl | rfl | ⟨a, b⟩
  · have x : ((s.size : Int) == 4) = false := by simp; omega
    clear h h'
    go_enter Try.func24, Try.ntmps24
    go_wp2_with fail
    go_ret3
    exact ⟨rfl, (Below.refl w.heap.size w).alloc (Nat.le_refl _) _⟩
  · have x : decide ((4 : Int) < (s.size : Int)) = false := by simp; omega
    have x' : decide (4 < s.size) = false := by simp; omega
    clear h h'
    go_enter Try.func24, Try.ntmps24
    go_wp2_with fail
    go_ret3
    exact ⟨rfl, (Below.refl w.heap.size w).alloc (Nat.le_refl _) _⟩
  · have x : (t == 49157) = false := by simpa using a
    have x' : (t == 49155) = false := by simpa using b
    clear h h' a b
    go_enter Try.func24, Try.ntmps24
    go_wp2_with fail
    go_ret3
    exact ⟨rfl, (Below.refl w.heap.size w).alloc (Nat.le_refl _) _⟩

theorem kind_core (t : Int) (s : ByteArray) (b : Int) (N : Nat) (L : ByteArray) (E : Int) (r : Bool) (w : World) (hN : N < 256 ^ 4) (hE : ((E == 0) = true ∧ ((s.size : Int) == b) = r) ∨ ((E == 0) = false ∧ r = false))
    (hn : ∀ w, Calls Try.prog 59 #[.agg #[.string s, .int .i64 0], .int .i64 4] w fun y w' => y = .returned (.tuple #[.agg #[.string L, .int .i64 E], .int .u64 N]) ∧ Below w.heap.size w w') :
    Calls Try.prog 21 #[.agg #[.int .i64 t, .string s], .int .i64 b] w fun e w' => e = .returned (.tuple #[.int .u32 N, .bool r]) ∧ Below w.heap.size w w' := by
  have hw : IntKind.u32.wrap (N : Int) = N := IntWalk.u32_in _ (by omega)
  rcases hE with ⟨hx0, hx⟩ | ⟨hx0, rfl⟩
  all_goals
    go_enter Try.func21, Try.ntmps21
    go_wp2_with fail
    refine (hn _).mono ?_
    rintro e w1 ⟨rfl, hb⟩
    go_wp2_with fail
    have B0 := (Blk.new w 23 #[.int .i64 t, .string s]).below hb (by simp)
    have bel1 : Below w.heap.size w w1 := ((Below.refl _ _).alloc (Nat.le_refl _) _).trans (hb.mono (by simp))
    clear hb
    have B1 := Blk.new w1 91 #[.string L, .int .i64 E]
    have B2 := B0.alloc (.cells #[.string L, .int .i64 E] 91)
    have bel2 := bel1.alloc bel1.size (.cells #[.string L, .int .i64 E] 91)
    have k0 := cell_regrown (B1.cell 1)
    have k1 := cell_regrown (B2.cell 1)
    refine wp_region_quiet_below (by kernel_rfl) (by kernel_rfl) ?_
    repeat (any_goals (first | go_big_quiet_step (fail) | quiet_step (fail)))
    refine wpQuiet_nil ?_
    intro _ hw'
    obtain ⟨⟨dq, osq⟩, hw''⟩ := hw'
    subst hw''
    go_wp2
    go_ret2
    exact ⟨rfl, bel2.trans ((below_regrown _ dq osq).mono bel2.size)⟩

/-- Whether a parameter's value begins with a number, and has so many bytes. -/
theorem kind_any (t : Int) (s : ByteArray) (b : Int) (w : World) (hs : s.size ≤ maxLen) :
    Calls Try.prog 21 #[.agg #[.int .i64 t, .string s], .int .i64 b] w fun e w' => e = .returned (.tuple #[.int .u32 (rdN s 4), .bool (decide (4 ≤ s.size ∧ (s.size : Int) = b))]) ∧ Below w.heap.size w w' := by
  obtain ⟨q1, q2, q3⟩ := num_same s 0 4 (fun h => absurd rfl h) (by omega)
  have hn := fun w => rnum_any s 0 4 w (by omega) hs
  rw [q1, q2, q3] at hn
  refine kind_core t s b (rdN s 4) _ _ _ w (rdN_lt s 4 (by omega)) ?_ hn
  have e1 : rdE s 0 4 = if 4 ≤ s.size then 0 else 2 := by unfold rdE failE; split <;> rfl
  rw [e1]
  by_cases h : 4 ≤ s.size
  · left
    rw [if_pos h]
    refine ⟨rfl, ?_⟩
    by_cases hb : (s.size : Int) = b
    · rw [decide_eq_true ⟨h, hb⟩]; simpa using hb
    · rw [decide_eq_false (fun q => hb q.2)]; simpa using hb
  · right
    rw [if_neg h]
    exact ⟨rfl, decide_eq_false (fun q => h q.1)⟩

set_option maxHeartbeats 2000000 in
theorem answers_law (t : Int) (s : ByteArray) (id : Nat) (y : ByteArray) (w : World) (hs : s.size ≤ maxLen) (hy : y.size ≤ maxLen) (hi : id ≤ 4294967295) :
    Calls Try.prog 6 #[.agg #[.int .i64 t, .string s], .int .u32 id, .string y] w fun e w' => e = .returned (.bool true) ∧ Below w.heap.size w w' := by
  unfold maxLen at hs hy
  go_enter Try.func6, Try.ntmps6
  go_upto_region 1 with fail
  go_cut [7] (fun s7 wx => s7 = .pointer (some ⟨w.heap.size + 1, 0, none⟩) ∧ ∃ T : ByteArray, T.size ≤ 30 ∧ Blk wx (w.heap.size + 1) 23 #[.int .i64 t, .string T] ∧ Below w.heap.size w wx)
  case first =>
    have B1 := Blk.new w 23 #[.int .i64 t, .string s]
    have bel := (Below.refl w.heap.size w).alloc (Nat.le_refl _) (.cells #[.int .i64 t, .string s] 23)
    go_region
    all_goals
      go_wp2_with fail
      go_meet
      exact ⟨rfl, _, (by simp; omega), (blk_new2 _ _ _ _).drew, (bel.alloc (by simp) _).drew⟩
  case rest =>
  obtain ⟨rfl, T, hT, B, bel⟩ := hcut
  have hTm : T.size ≤ maxLen := by unfold maxLen; omega
  generalize w.heap.size + 1 = gx at *
  go_upto_region 3 with fail
  have hZ : (y.extract 0 (min (y.size : Int) 30).toNat).size ≤ 30 := by simp; omega
  generalize y.extract 0 (min (y.size : Int) 30).toNat = Y at *
  go_cut [9, 10, 11] (fun s9 s10 s11 wx => s9 = .int .u32 id ∧ s10 = .bool (decide (Y.size = 0)) ∧ s11 = .bool true ∧ Blk wx gx 23 #[.int .i64 t, .string T] ∧ Below w.heap.size w wx)
  case first =>
    have sa : (p4 id).size = 4 := p4_size _
    have hA := fun w => answer_any id Y w (by omega) (by omega) (by omega)
    have hB := fun w => asAnswer_yes (answerT Y) (decide (Y.size = 0)) (p4 id ++ Y) w (by unfold maxLen; simp; omega) (by
      unfold answerT
      by_cases h : Y.size = 0
      · left; rw [if_pos h]; exact ⟨rfl, by simp; omega, by simpa using h⟩
      · right; rw [if_neg h]; exact ⟨rfl, by simp; omega, by simpa using h⟩)
    have e1 : rdN (p4 id ++ Y) 4 = id := by
      unfold rdN
      rw [if_pos (by simp; omega), take_data, ext_left _ _ 4 sa, numV_p4 id hi]
    rw [e1] at hB
    clear e1 sa
    generalize p4 id ++ Y = S at *
    generalize answerT Y = aT at *
    generalize decide (Y.size = 0) = dY at *
    go_wp2_with fail
    refine (hA _).mono ?_
    rintro e w1 ⟨rfl, hb1⟩
    go_wp2_with fail
    refine (hB _).mono ?_
    rintro e w2 ⟨rfl, hb2⟩
    go_wp2_with fail
    go_meet
    have bel1 := bel.trans (hb1.mono bel.size)
    exact ⟨rfl, rfl, rfl, (B.below hb1 B.lt).below hb2 (B.below hb1 B.lt).lt, bel1.trans (hb2.mono bel1.size)⟩
  case rest =>
  obtain ⟨rfl, rfl, rfl, B2, bel2⟩ := hcut
  clear B bel
  go_upto_region 4 with fail
  go_cut [57] (fun s57 wx => s57 = .bool false ∧ Blk wx gx 23 #[.int .i64 t, .string T] ∧ Below w.heap.size w wx)
  case first =>
    have hem : Y.toList.isEmpty = decide (Y.size = 0) := by
      rw [Lib.toList_data, Bool.eq_iff_iff, List.isEmpty_iff, decide_eq_true_iff, ← len_data, List.length_eq_zero_iff]
    generalize decide (Y.size = 0) = dY at *
    go_wp2_with (go_at_call 15; refine (awake_any _).mono ?_; rintro e w5 ⟨rfl, hb5⟩; have B7 := B2.below hb5 B2.lt; have bel5 := bel2.trans (hb5.mono bel2.size))
    go_meet
    exact ⟨rfl, B7, bel5⟩
  case rest =>
  obtain ⟨rfl, B3, bel3⟩ := hcut
  clear B2 bel2
  have hK := fun w => kind_any t T 0 w hTm
  have C3 := fun i => B3.cell i
  have hd0 : decide (4 ≤ T.size ∧ (T.size : Int) = 0) = false := decide_eq_false (by omega)
  rw [hd0] at hK
  clear hd0
  have hN := rdN_lt T 4 (by omega)
  by_cases hc : t = 49157 ∧ T.size = 4
  · obtain ⟨rfl, h⟩ := hc
    have hA := fun w => asAnswer_yes 49157 true T w hTm (.inl ⟨rfl, h, rfl⟩)
    have x1 : ((T.size : Int) == 4) = true := by simp; omega
    clear h hN
    go_wp2_with (first | (go_at_call 24; refine (hA _).mono ?_; rintro e w5 ⟨rfl, hb5⟩; have B5 := B3.below hb5 B3.lt; have C5 := fun i => B5.cell i) | (go_at_call 21; refine (hK _).mono ?_; rintro e w6 ⟨rfl, hb6⟩; have B6 := B5.below hb6 B5.lt; have C6 := fun i => B6.cell i))
    go_ret
    exact ⟨rfl, (bel3.trans (hb5.mono bel3.size)).trans (hb6.mono (Nat.le_trans bel3.size hb5.size))⟩
  · by_cases hc' : t = 49155 ∧ 4 < T.size
    · obtain ⟨rfl, h⟩ := hc'
      have hA := fun w => asAnswer_yes 49155 false T w hTm (.inr ⟨rfl, h, rfl⟩)
      have x1 : ((T.size : Int) == 4) = false := by simp; omega
      have x2 : decide ((4 : Int) < (T.size : Int)) = true := by simp; omega
      clear h hN hc
      go_wp2_with (first | (go_at_call 24; refine (hA _).mono ?_; rintro e w5 ⟨rfl, hb5⟩; have B5 := B3.below hb5 B3.lt; have C5 := fun i => B5.cell i) | (go_at_call 21; refine (hK _).mono ?_; rintro e w6 ⟨rfl, hb6⟩; have B6 := B5.below hb6 B5.lt; have C6 := fun i => B6.cell i))
      go_ret
      exact ⟨rfl, (bel3.trans (hb5.mono bel3.size)).trans (hb6.mono (Nat.le_trans bel3.size hb5.size))⟩
    · have hA := fun w => asAnswer_no t T w hc hc'
      rcases (by omega : T.size = 4 ∨ (4 < T.size) ∨ T.size < 4) with h | h | h
      · have x1 : ((T.size : Int) == 4) = true := by simp; omega
        have x2 : decide ((4 : Int) < (T.size : Int)) = false := by simp; omega
        have x3 : (t == 49157) = false := by simp; omega
        clear h hN hc hc'
        go_wp2_with (first | (go_at_call 24; refine (hA _).mono ?_; rintro e w5 ⟨rfl, hb5⟩; have B5 := B3.below hb5 B3.lt; have C5 := fun i => B5.cell i) | (go_at_call 21; refine (hK _).mono ?_; rintro e w6 ⟨rfl, hb6⟩; have B6 := B5.below hb6 B5.lt; have C6 := fun i => B6.cell i))
        go_ret
        exact ⟨rfl, (bel3.trans (hb5.mono bel3.size)).trans (hb6.mono (Nat.le_trans bel3.size hb5.size))⟩
      · have x1 : ((T.size : Int) == 4) = false := by simp; omega
        have x2 : decide ((4 : Int) < (T.size : Int)) = true := by simp; omega
        have x3 : (t == 49155) = false := by simp; omega
        clear h hN hc hc'
        go_wp2_with (first | (go_at_call 24; refine (hA _).mono ?_; rintro e w5 ⟨rfl, hb5⟩; have B5 := B3.below hb5 B3.lt; have C5 := fun i => B5.cell i) | (go_at_call 21; refine (hK _).mono ?_; rintro e w6 ⟨rfl, hb6⟩; have B6 := B5.below hb6 B5.lt; have C6 := fun i => B6.cell i))
        go_ret
        exact ⟨rfl, (bel3.trans (hb5.mono bel3.size)).trans (hb6.mono (Nat.le_trans bel3.size hb5.size))⟩
      · have x1 : ((T.size : Int) == 4) = false := by simp; omega
        have x2 : decide ((4 : Int) < (T.size : Int)) = false := by simp; omega
        clear h hN hc hc'
        go_wp2_with (first | (go_at_call 24; refine (hA _).mono ?_; rintro e w5 ⟨rfl, hb5⟩; have B5 := B3.below hb5 B3.lt; have C5 := fun i => B5.cell i) | (go_at_call 21; refine (hK _).mono ?_; rintro e w6 ⟨rfl, hb6⟩; have B6 := B5.below hb6 B5.lt; have C6 := fun i => B6.cell i))
        go_ret
        exact ⟨rfl, (bel3.trans (hb5.mono bel3.size)).trans (hb6.mono (Nat.le_trans bel3.size hb5.size))⟩
end Go.Proofs.Ytlpklnjnfeodaaa.par
