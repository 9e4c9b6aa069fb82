/- Layer 4: tags say three numbers; without one of both tags there are none. -/
import Derived.Test.YtlpklnjnfeodaaaTag
import Derived.Deep.CutBlock
import Derived.Deep.DeepCutAuto
import Derived.Deep.RegionWith
import Derived.BigRegion
import Derived.RegionTactic
namespace Go.Proofs.Ytlpklnjnfeodaaa.par
open Go.ChangeShapes Go.WideShapes Go.ChangeAt Go.RowKit kit oct
set_option maxRecDepth 100000

theorem blk_new3 (w : World) (o p : Obj) (t : TypeId) (cs : Array Value) : Blk (((w.alloc o).alloc p).alloc (.cells cs t)) (w.heap.size + 1 + 1) t cs := by
  simpa using Blk.new ((w.alloc o).alloc p) t cs
theorem zero4 {s : ByteArray} (h : s.size = 4) : numV s.data.toList = 0 ↔ s = ⟨#[0, 0, 0, 0]⟩ := by
  constructor
  · intro q
    rw [← p4_of h, q]
    decide +kernel
  · rintro rfl
    decide +kernel
theorem ne_zero4 {s : ByteArray} (h : ¬ s = ⟨#[0, 0, 0, 0]⟩) : (s.toList == [0, 0, 0, 0]) = false := by
  have e : (⟨#[0, 0, 0, 0]⟩ : ByteArray).toList = [0, 0, 0, 0] := by rw [Lib.toList_data]
  have := str_ne h
  rwa [e] at this
theorem cut3 {T : ByteArray} (h : T.size = 12) : T.extract 0 4 ++ T.extract 4 8 ++ T.extract 8 12 = T := by
  have e1 : T.extract 0 4 ++ T.extract 4 8 = T.extract 0 8 := by rw [ByteArray.extract_append_extract]; rfl
  have e2 : T.extract 0 8 ++ T.extract 8 12 = T.extract 0 12 := by rw [ByteArray.extract_append_extract]; rfl
  rw [e1, e2, ← h]
  apply ByteArray.ext
  simp

set_option maxHeartbeats 1000000 in
theorem awake_any (w : World) : Calls Try.prog 15 #[] w fun e w' => e = .returned (.bool true) ∧ Below w.heap.size w w' := by
  have ep : putP 5 (p4 258) = ⟨#[0, 5, 0, 8, 0, 0, 1, 2]⟩ := by decide +kernel
  have en : numV (p4 258).data.toList = 258 := by decide +kernel
  have hA := fun w => addr_any 258 w (by omega) (by omega)
  have hP := fun w => put_any 5 (p4 258) w
  have hY := fun w => asAddr_yes (p4 258) w (p4_size _)
  rw [ep] at hP
  rw [en] at hY
  have e258 : p4 258 = ⟨#[0, 0, 1, 2]⟩ := by decide +kernel
  rw [e258] at hA hP hY
  clear ep en e258
  go_enter Try.func15, Try.ntmps15
  go_wp2_with fail
  refine (hA _).mono ?_
  rintro e w1 ⟨rfl, hb1⟩
  have B2 := Blk.new w1 23 #[.int .i64 5, .string ⟨#[0, 0, 1, 2]⟩]
  have bel2 := hb1.alloc hb1.size (.cells #[.int .i64 5, .string ⟨#[0, 0, 1, 2]⟩] 23)
  go_wp2_with fail
  refine (hY _).mono ?_
  rintro e w3 ⟨rfl, hb3⟩
  have B3 := B2.below hb3 B2.lt
  have C3 := fun i => B3.cell i
  have bel3 := bel2.trans (hb3.mono bel2.size)
  go_wp2_with fail
  refine (hP _).mono ?_
  rintro e w4 ⟨rfl, hb4⟩
  go_wp2_with fail
  go_ret
  exact ⟨rfl, bel3.trans (hb4.mono bel3.size)⟩

theorem tagged_law (t : Int) (s : ByteArray) (id b0 b1 : Nat) (w : World) (hs : s.size ≤ maxLen) (hi : id ≤ 4294967295) (h0 : b0 ≤ 4294967295) (h1 : b1 ≤ 4294967295) :
    Calls Try.prog 7 #[.agg #[.int .i64 t, .string s], .int .u32 id, .agg #[.int .u32 b0, .int .u32 b1]] w fun e w' => e = .returned (.bool true) ∧ Below w.heap.size w w' := by
  unfold maxLen at hs
  go_enter Try.func7, Try.ntmps7
  go_upto_region 1 with fail
  go_cut [7] (fun s7 wx => s7 = .pointer (some ⟨w.heap.size + 1 + 1, 0, none⟩) ∧ ∃ T : ByteArray, T.size ≤ 30 ∧ Blk wx (w.heap.size + 1) 52 #[.int .u32 b0, .int .u32 b1] ∧ Blk wx (w.heap.size + 1 + 1) 23 #[.int .i64 t, .string T] ∧ Below w.heap.size w wx)
  case first =>
    have B1' := blk_new2 w (.cells #[.int .i64 t, .string s] 23) 52 #[.int .u32 b0, .int .u32 b1]
    have B1 := (Blk.new w 23 #[.int .i64 t, .string s]).alloc (.cells #[.int .u32 b0, .int .u32 b1] 52)
    have B2 := blk_new2 w (.cells #[.int .i64 t, .string s] 23) 52 #[.int .u32 b0, .int .u32 b1]
    have bel := ((Below.refl w.heap.size w).alloc (Nat.le_refl _) (.cells #[.int .i64 t, .string s] 23)).alloc (by simp) (.cells #[.int .u32 b0, .int .u32 b1] 52)
    go_region
    all_goals
      go_wp2_with fail
      go_meet
      exact ⟨rfl, _, (by simp; omega), (B1'.alloc _).drew, (blk_new3 _ _ _ _ _).drew, (bel.alloc (by simp; omega) _).drew⟩
  case rest =>
  obtain ⟨rfl, T, hT, B2, B3, bel⟩ := hcut
  have hg : w.heap.size ≤ w.heap.size + 1 := by omega
  have hTm : T.size ≤ maxLen := by unfold maxLen; omega
  generalize w.heap.size + 1 + 1 = gx at *
  generalize w.heap.size + 1 = gb at *
  go_upto_region 2 with fail
  go_cut [8, 9, 10, 11] (fun s8 s9 s10 s11 wx => ∃ (n a b : Nat) (k : Bool), s8 = .int .u32 n ∧ s9 = .int .u32 a ∧ s10 = .int .u32 b ∧ s11 = .bool k ∧ ((b0 ≠ 0 ∧ b1 ≠ 0 ∧ k = true ∧ n = id ∧ a = b0 ∧ b = b1) ∨ ((b0 = 0 ∨ b1 = 0) ∧ k = false)) ∧ Blk wx gb 52 #[.int .u32 b0, .int .u32 b1] ∧ Blk wx gx 23 #[.int .i64 t, .string T] ∧ Below w.heap.size w wx)
  case first =>
    have C2 := fun i => B2.cell i
    obtain ⟨z1, z2, z3, z4⟩ := three_put id b0 b1 hi h0 h1
    have hT1 := fun w => tags_any id b0 b1 w (by omega) (by omega) (by omega) (by omega) (by omega) (by omega)
    have hT2 := fun w => asTags_any 49160 (p4 id ++ p4 b0 ++ p4 b1) w (by unfold maxLen; omega)
    have zy : b0 ≠ 0 → b1 ≠ 0 → tagsV 49160 (p4 id ++ p4 b0 ++ p4 b1) = .tuple #[.int .u32 id, .int .u32 b0, .int .u32 b1, .bool true] := fun a b => by
      unfold tagsV; rw [z2, z3, z4]; exact if_pos ⟨rfl, z1, a, b⟩
    have zn : b0 = 0 ∨ b1 = 0 → tagsV 49160 (p4 id ++ p4 b0 ++ p4 b1) = .tuple #[.int .u32 0, .int .u32 0, .int .u32 0, .bool false] := fun a => by
      unfold tagsV; rw [z2, z3, z4]; exact if_neg (by omega)
    clear z1 z2 z3 z4
    generalize p4 id ++ p4 b0 ++ p4 b1 = S at *
    by_cases hh : b0 ≠ 0 ∧ b1 ≠ 0
    · rw [zy hh.1 hh.2] at hT2
      have HH := Lib.hid hh
      clear zy zn hh
      go_wp2_with fail
      refine (hT1 _).mono ?_
      rintro e w1 ⟨rfl, hb1⟩
      go_wp2_with fail
      refine (hT2 _).mono ?_
      rintro e w2 ⟨rfl, hb2⟩
      go_wp2_with fail
      go_meet
      have bel1 := bel.trans (hb1.mono bel.size)
      exact ⟨id, b0, b1, true, rfl, rfl, rfl, rfl, .inl ⟨HH.out.1, HH.out.2, rfl, rfl, rfl, rfl⟩, (B2.below hb1 B2.lt).below hb2 (B2.below hb1 B2.lt).lt, (B3.below hb1 B3.lt).below hb2 (B3.below hb1 B3.lt).lt, bel1.trans (hb2.mono bel1.size)⟩
    · rw [zn (by omega)] at hT2
      have HH := Lib.hid hh
      clear zy zn hh
      go_wp2_with fail
      refine (hT1 _).mono ?_
      rintro e w1 ⟨rfl, hb1⟩
      go_wp2_with fail
      refine (hT2 _).mono ?_
      rintro e w2 ⟨rfl, hb2⟩
      go_wp2_with fail
      go_meet
      have bel1 := bel.trans (hb1.mono bel.size)
      exact ⟨0, 0, 0, false, rfl, rfl, rfl, rfl, .inr ⟨(by have := HH.out; omega), rfl⟩, (B2.below hb1 B2.lt).below hb2 (B2.below hb1 B2.lt).lt, (B3.below hb1 B3.lt).below hb2 (B3.below hb1 B3.lt).lt, bel1.trans (hb2.mono bel1.size)⟩
  case rest =>
  obtain ⟨n, a, b, k, rfl, rfl, rfl, rfl, hk, B4, B5, bel4⟩ := hcut
  clear B2 B3 bel
  go_upto_region 3 with fail
  go_cut [72] (fun s72 wx => s72 = .bool false ∧ Blk wx gx 23 #[.int .i64 t, .string T] ∧ Below w.heap.size w wx)
  case first =>
    rcases hk with ⟨g0, g1, rfl, rfl, rfl, rfl⟩ | ⟨g, rfl⟩
    · have x0 : ((a : Int) != 0) = true := by simpa using g0
      have x1 : ((b : Int) != 0) = true := by simpa using g1
      clear g0 g1
      go_wp2_with (go_at_call 15; refine (awake_any _).mono ?_; rintro e w5 ⟨rfl, hb5⟩; have B6 := B4.below hb5 B4.lt; have C6 := fun i => B6.cell i; have B7 := B5.below hb5 B5.lt; have bel5 := bel4.trans (hb5.mono bel4.size))
      go_meet
      exact ⟨rfl, B7, bel5⟩
    · rcases (by omega : b0 = 0 ∨ (b0 ≠ 0 ∧ b1 = 0)) with rfl | ⟨g0, rfl⟩
      · clear g
        go_wp2_with (go_at_call 15; refine (awake_any _).mono ?_; rintro e w5 ⟨rfl, hb5⟩; have B6 := B4.below hb5 B4.lt; have C6 := fun i => B6.cell i; have B7 := B5.below hb5 B5.lt; have bel5 := bel4.trans (hb5.mono bel4.size))
        go_meet
        exact ⟨rfl, B7, bel5⟩
      · have x0 : ((b0 : Int) != 0) = true := by simpa using g0
        clear g g0
        go_wp2_with (go_at_call 15; refine (awake_any _).mono ?_; rintro e w5 ⟨rfl, hb5⟩; have B6 := B4.below hb5 B4.lt; have C6 := fun i => B6.cell i; have B7 := B5.below hb5 B5.lt; have bel5 := bel4.trans (hb5.mono bel4.size))
        go_meet
        exact ⟨rfl, B7, bel5⟩
  case rest =>
  obtain ⟨rfl, B8, bel8⟩ := hcut
  clear hk B4 B5 bel4
  have hA := fun w => asTags_any t T w hTm
  have C8 := fun i => B8.cell i
  by_cases hc : t = 49160 ∧ T.size = 12
  · obtain ⟨rfl, hsz⟩ := hc
    obtain ⟨z1, z2, z3⟩ := three_nums T hsz
    have s1 : (T.extract 0 4).size = 4 := by simp; omega
    have s2 : (T.extract 4 8).size = 4 := by simp; omega
    have s3 : (T.extract 8 12).size = 4 := by simp; omega
    have y2 := zero4 s2
    have y3 := zero4 s3
    rw [← z2] at y2
    rw [← z3] at y3
    have q1 : p4 (n1 T) = T.extract 0 4 := by rw [z1]; exact p4_of s1
    have q2 : p4 (n2 T) = T.extract 4 8 := by rw [z2]; exact p4_of s2
    have q3 : p4 (n3 T) = T.extract 8 12 := by rw [z3]; exact p4_of s3
    have hcut := cut3 hsz
    have e12 : T.extract 8 T.size = T.extract 8 12 := by rw [hsz]
    have x0 : ((T.size : Int) != 12) = false := by simp; omega
    by_cases g2 : n2 T = 0
    · rw [show tagsV 49160 T = .tuple #[.int .u32 0, .int .u32 0, .int .u32 0, .bool false] from if_neg (by omega)] at hA
      have k2 := y2.1 g2
      clear hcut y2 y3 q1 q2 q3 z1 z2 z3 g2
      go_wp2_with (go_at_call 26; refine (hA _).mono ?_; rintro e w5 ⟨rfl, hb5⟩; have B9 := B8.below hb5 B8.lt; have C9 := fun i => B9.cell i)
      have k0 := cell_regrown (B9.cell 0)
      have k1 := cell_regrown (B9.cell 1)
      refine wp_region_quiet_below (by kernel_rfl) (by kernel_rfl) ?_
      repeat (any_goals (first | go_big_quiet_step (fail) | quiet_step (fail)))
      refine wpQuiet_nil ?_
      intro _ hw'
      obtain ⟨⟨dq, osq⟩, hw''⟩ := hw'
      subst hw''
      go_wp2
      go_ret
      exact ⟨rfl, (bel8.trans (hb5.mono bel8.size)).trans ((below_regrown _ dq osq).mono (Nat.le_trans bel8.size hb5.size))⟩
    · have k2 := ne_zero4 (fun q => g2 (y2.2 q))
      by_cases g3 : n3 T = 0
      · rw [show tagsV 49160 T = .tuple #[.int .u32 0, .int .u32 0, .int .u32 0, .bool false] from if_neg (by omega)] at hA
        have k3 := y3.1 g3
        clear hcut y2 y3 q1 q2 q3 z1 z2 z3 g2 g3
        go_wp2_with (go_at_call 26; refine (hA _).mono ?_; rintro e w5 ⟨rfl, hb5⟩; have B9 := B8.below hb5 B8.lt; have C9 := fun i => B9.cell i)
        have k0 := cell_regrown (B9.cell 0)
        have k1 := cell_regrown (B9.cell 1)
        refine wp_region_quiet_below (by kernel_rfl) (by kernel_rfl) ?_
        repeat (any_goals (first | go_big_quiet_step (fail) | quiet_step (fail)))
        refine wpQuiet_nil ?_
        intro _ hw'
        obtain ⟨⟨dq, osq⟩, hw''⟩ := hw'
        subst hw''
        go_wp2
        go_ret
        exact ⟨rfl, (bel8.trans (hb5.mono bel8.size)).trans ((below_regrown _ dq osq).mono (Nat.le_trans bel8.size hb5.size))⟩
      · rw [show tagsV 49160 T = .tuple #[.int .u32 (n1 T), .int .u32 (n2 T), .int .u32 (n3 T), .bool true] from if_pos ⟨rfl, hsz, g2, g3⟩] at hA
        have k3 := ne_zero4 (fun q => g3 (y3.2 q))
        have b1 := rdN_lt T 4 (by omega)
        have b2 := rdN_lt (l1 T) 4 (by omega)
        have b3 := rdN_lt (l2 T) 4 (by omega)
        have u1 := fun w => u32_p (n1 T) w (by omega) (by have : n1 T < 256 ^ 4 := b1; omega)
        have u2 := fun w => u32_p (n2 T) w (by omega) (by have : n2 T < 256 ^ 4 := b2; omega)
        have u3 := fun w => u32_p (n3 T) w (by omega) (by have : n3 T < 256 ^ 4 := b3; omega)
        rw [q1] at u1
        rw [q2] at u2
        rw [q3] at u3
        have a1 : (T.extract 0 4).size ≤ 4 := by omega
        have a2 : (T.extract 4 8).size ≤ 4 := by omega
        have a3 : (T.extract 8 12).size ≤ 4 := by omega
        have HC := Lib.hid hcut
        clear hcut y2 y3 q1 q2 q3 z1 z2 z3 g2 g3 b1 b2 b3 s1 s2 s3
        generalize n1 T = N1 at *
        generalize n2 T = N2 at *
        generalize n3 T = N3 at *
        go_wp2_with (go_at_call 26; refine (hA _).mono ?_; rintro e w5 ⟨rfl, hb5⟩; have B9 := B8.below hb5 B8.lt; have C9 := fun i => B9.cell i)
        have k0 := cell_regrown (B9.cell 0)
        have k1 := cell_regrown (B9.cell 1)
        clear k2 k3 C8 C9
        generalize T.extract 0 4 = A1 at *
        generalize T.extract 4 8 = A2 at *
        generalize T.extract 8 12 = A3 at *
        have he := HC.out
        subst he
        refine wp_region_quiet_below (by kernel_rfl) (by kernel_rfl) ?_
        repeat (any_goals (first | go_big_quiet_step ((go_at_call 23; first | (with_reducible exact Calls.regrown_of (u1 _)) | (with_reducible exact Calls.regrown_of (u2 _)) | (with_reducible exact Calls.regrown_of (u3 _)))) | quiet_step ((go_at_call 23; first | (with_reducible exact Calls.regrown_of (u1 _)) | (with_reducible exact Calls.regrown_of (u2 _)) | (with_reducible exact Calls.regrown_of (u3 _))))))
        refine wpQuiet_nil ?_
        intro _ hw'
        obtain ⟨⟨dq, osq⟩, hw''⟩ := hw'
        subst hw''
        go_wp2
        go_ret
        exact ⟨rfl, (bel8.trans (hb5.mono bel8.size)).trans ((below_regrown _ dq osq).mono (Nat.le_trans bel8.size hb5.size))⟩
  · rw [show tagsV t T = .tuple #[.int .u32 0, .int .u32 0, .int .u32 0, .bool false] from if_neg (by omega)] at hA
    have bel9 : ∀ w2, Below _ _ w2 → Below w.heap.size w w2 := fun w2 hb => bel8.trans (Below.mono hb bel8.size)
    rcases (by omega : t ≠ 49160 ∨ (t = 49160 ∧ T.size ≠ 12)) with h | ⟨rfl, h⟩
    · have x0 : (t != 49160) = true := by simpa using h
      clear hc h
      go_wp2_with (go_at_call 26; refine (hA _).mono ?_; rintro e w5 ⟨rfl, hb5⟩; have B9 := B8.below hb5 B8.lt; have C9 := fun i => B9.cell i)
      go_ret
      exact ⟨rfl, bel8.trans (hb5.mono bel8.size)⟩
    · have x0 : ((T.size : Int) != 12) = true := by simp; omega
      clear hc h
      go_wp2_with (go_at_call 26; refine (hA _).mono ?_; rintro e w5 ⟨rfl, hb5⟩; have B9 := B8.below hb5 B8.lt; have C9 := fun i => B9.cell i)
      go_ret
      exact ⟨rfl, bel8.trans (hb5.mono bel8.size)⟩
end Go.Proofs.Ytlpklnjnfeodaaa.par
