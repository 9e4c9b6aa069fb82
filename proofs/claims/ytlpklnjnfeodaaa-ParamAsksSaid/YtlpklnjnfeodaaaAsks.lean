/- Layer 4: requests, answers, addresses say what they were made of; other parameters are none. -/
import Derived.Test.YtlpklnjnfeodaaaReq
import Derived.Test.YtlpklnjnfeodaaaAns
namespace Go.Proofs.Ytlpklnjnfeodaaa.par
open Go.ChangeShapes Go.WideShapes Go.ChangeAt Go.RowKit kit oct
set_option maxRecDepth 100000

theorem putAddr (a : Int) : putP 5 (p4 a) = (⟨#[0, 5, 0, 8]⟩ : ByteArray) ++ p4 a := by
  have h4 := p4_size a
  unfold putP
  rw [if_pos (mayP_yes (by omega) (by omega) (by omega)), h4]
  have e1 : p2 5 ++ p2 (((4 : Nat) : Int) + 4) = (⟨#[0, 5, 0, 8]⟩ : ByteArray) := by decide +kernel
  rw [e1]
  have h8 : ((⟨#[0, 5, 0, 8]⟩ : ByteArray) ++ p4 a).size = 8 := by rw [ByteArray.size_append, h4]; rfl
  unfold filled
  rw [h8]
  have : zeros (-((8 : Nat) : Int) % 4).toNat = ByteArray.empty := by decide +kernel
  rw [this]
  apply ByteArray.ext
  simp

theorem request_any (t a b : Int) (w : World) (ha : 0 ≤ a) (ha' : a ≤ 4294967295) (hb : 0 ≤ b) (hb' : b ≤ 4294967295) :
    Calls Try.prog 20 #[.int .i64 t, .int .u32 a, .int .u32 b] w fun e w' => e = .returned (.agg #[.int .i64 t, .string (p4 a ++ ((⟨#[0, 5, 0, 8]⟩ : ByteArray) ++ p4 b))]) ∧ Below w.heap.size w w' := by
  have sa : (p4 a).size ≤ 4 := by rw [p4_size]; omega
  have hP := fun w => put_any 5 (p4 b) w
  rw [putAddr] at hP
  have sb : ((⟨#[0, 5, 0, 8]⟩ : ByteArray) ++ p4 b).size ≤ 8 := by rw [ByteArray.size_append, p4_size]; decide
  have hA := fun w => addr_any b w hb hb'
  generalize (⟨#[0, 5, 0, 8]⟩ : ByteArray) ++ p4 b = S at *
  go_enter Try.func20, Try.ntmps20
  go_wp2_with fail
  refine (u32_p a _ ha ha').mono ?_
  rintro e w1 ⟨rfl, hb1⟩
  go_wp2_with fail
  refine (hA _).mono ?_
  rintro e w2 ⟨rfl, hb2⟩
  go_wp2_with fail
  refine (hP _).mono ?_
  rintro e w3 ⟨rfl, hb3⟩
  have bel1 : Below w.heap.size w w1 := ((Below.refl w.heap.size w).alloc (Nat.le_refl _) _).trans (hb1.mono (by simp))
  have bel2 := bel1.trans (hb2.mono bel1.size)
  have bel3 := bel2.trans (hb3.mono bel2.size)
  have B1 := (Blk.new _ _ _).below hb1 (by simp)
  have B3 := (B1.below hb2 B1.lt).below hb3 (B1.below hb2 B1.lt).lt
  have C3 := fun i => B3.cell i
  have F3 := fun i => B3.frozen i
  have hz3 := B3.lt
  clear hb1 hb2 hb3 B1 bel1 bel2 hP hA
  go_wp2_with fail
  exact bodyPost_ret (v := .agg #[.int .i64 t, .string (p4 a ++ S)]) (by simp [results, Try.results20, go_sem, C3, F3, hz3] <;> rfl) rfl ⟨rfl, (bel3.setCell (by simp) _).setCell (by simp) _⟩

theorem ne_hdr {s : ByteArray} (h : ¬ s = ⟨#[0, 5, 0, 8]⟩) : (s.toList == [0, 5, 0, 8]) = false := by
  have e : (⟨#[0, 5, 0, 8]⟩ : ByteArray).toList = [0, 5, 0, 8] := by rw [Lib.toList_data]
  have := str_ne h
  rwa [e] at this

theorem reqS (id a : Nat) (hi : id ≤ 4294967295) (ha : a ≤ 4294967295) : IsReq (p4 id ++ ((⟨#[0, 5, 0, 8]⟩ : ByteArray) ++ p4 a)) ∧ numV ((p4 id ++ ((⟨#[0, 5, 0, 8]⟩ : ByteArray) ++ p4 a)).extract 0 4).data.toList = id ∧ numV ((p4 id ++ ((⟨#[0, 5, 0, 8]⟩ : ByteArray) ++ p4 a)).extract 8 12).data.toList = a := by
  have s1 := p4_size id
  have s3 := p4_size a
  have s2 : (⟨#[0, 5, 0, 8]⟩ : ByteArray).size = 4 := rfl
  have key : ∀ S : ByteArray, S.extract 4 8 = (S.extract 4 12).extract 0 4 := fun S => by apply ByteArray.ext; simp
  have hs : (p4 id ++ ((⟨#[0, 5, 0, 8]⟩ : ByteArray) ++ p4 a)).size = 12 := by simp [s1, s2, s3]
  refine ⟨⟨hs, ?_⟩, ?_, ?_⟩
  · rw [key, ext_right _ _ 4 12 s1 hs, ext_left _ _ 4 s2]
  · rw [ext_left _ _ 4 s1, numV_p4 id hi]
  · rw [← ByteArray.append_assoc, ext_right _ _ 8 12 (by simp [s1, s2]) (by simp [s1, s2, s3]), numV_p4 a ha]

set_option maxHeartbeats 4000000 in
theorem asks_law (t : Int) (s : ByteArray) (id a : Nat) (w : World) (hs : s.size ≤ maxLen) (hi : id ≤ 4294967295) (ha : a ≤ 4294967295) :
    Calls Try.prog 5 #[.agg #[.int .i64 t, .string s], .int .u32 id, .int .u32 a] w fun e w' => e = .returned (.bool true) ∧ Below w.heap.size w w' := by
  unfold maxLen at hs
  go_enter Try.func5, Try.ntmps5
  go_upto_region 1 with fail
  go_cut [7] (fun s7 wx => s7 = .pointer (some ⟨w.heap.size + 1, 0, none⟩) ∧ ∃ T : ByteArray, T.size ≤ 30 ∧ Blk wx (w.heap.size + 1) 23 #[.int .i64 t, .string T] ∧ Below w.heap.size w wx)
  case first =>
    have B1 := Blk.new w 23 #[.int .i64 t, .string s]
    have bel := (Below.refl w.heap.size w).alloc (Nat.le_refl _) (.cells #[.int .i64 t, .string s] 23)
    go_region
    all_goals
      go_wp2_with fail
      go_meet
      exact ⟨rfl, _, (by simp; omega), (blk_new2 _ _ _ _).drew, (bel.alloc (by simp) _).drew⟩
  case rest =>
  obtain ⟨rfl, T, hT, B, bel⟩ := hcut
  have hTm : T.size ≤ maxLen := by unfold maxLen; omega
  generalize w.heap.size + 1 = gx at *
  obtain ⟨m, hm, m0, m3⟩ : ∃ m : Nat, (id : Int) % 4 = m ∧ 0 ≤ m ∧ m ≤ 3 := ⟨id % 4, by omega, by omega, by omega⟩
  have hmt : (id : Int).tmod 4 = m := by rw [Int.tmod_eq_emod_of_nonneg (by omega)]; exact hm
  go_upto_region 3 with fail
  go_cut [9, 10, 11] (fun s9 s10 s11 wx => ∃ (n b : Nat) (k : Bool), s9 = .int .u32 n ∧ s10 = .int .u32 b ∧ s11 = .bool k ∧ ((m ≠ 2 ∧ k = true ∧ n = id ∧ b = a) ∨ (m = 2 ∧ k = false)) ∧ Blk wx gx 23 #[.int .i64 t, .string T] ∧ Below w.heap.size w wx)
  case first =>
    obtain ⟨z1, z2, z3⟩ := reqS id a hi ha
    have hR := fun w => request_any (49153 + m) id a w (by omega) (by omega) (by omega) (by omega)
    by_cases h2 : m = 2
    · have hA := fun w => asReq_kind (49153 + m) (p4 id ++ ((⟨#[0, 5, 0, 8]⟩ : ByteArray) ++ p4 a)) w (by unfold isAsk; omega)
      clear z1 z2 z3
      have H2 := Lib.hid h2
      clear h2
      generalize p4 id ++ ((⟨#[0, 5, 0, 8]⟩ : ByteArray) ++ p4 a) = S at *
      clear hm hmt
      go_wp2_with fail
      refine (hR _).mono ?_
      rintro e w1 ⟨rfl, hb1⟩
      go_wp2_with fail
      refine (hA _).mono ?_
      rintro e w2 ⟨rfl, hb2⟩
      go_wp2_with fail
      go_meet
      have bel1 := bel.trans (hb1.mono bel.size)
      exact ⟨0, 0, false, rfl, rfl, rfl, .inr ⟨H2.out, rfl⟩, (B.below hb1 B.lt).below hb2 (B.below hb1 B.lt).lt, bel1.trans (hb2.mono bel1.size)⟩
    · have hA := fun w => asReq_yes (49153 + m) (p4 id ++ ((⟨#[0, 5, 0, 8]⟩ : ByteArray) ++ p4 a)) w (by unfold isAsk; omega) z1
      rw [z2, z3] at hA
      clear z1 z2 z3
      have H2 := Lib.hid h2
      clear h2
      generalize p4 id ++ ((⟨#[0, 5, 0, 8]⟩ : ByteArray) ++ p4 a) = S at *
      clear hm hmt
      go_wp2_with fail
      refine (hR _).mono ?_
      rintro e w1 ⟨rfl, hb1⟩
      go_wp2_with fail
      refine (hA _).mono ?_
      rintro e w2 ⟨rfl, hb2⟩
      go_wp2_with fail
      go_meet
      have bel1 := bel.trans (hb1.mono bel.size)
      exact ⟨id, a, true, rfl, rfl, rfl, .inl ⟨H2.out, rfl, rfl, rfl⟩, (B.below hb1 B.lt).below hb2 (B.below hb1 B.lt).lt, bel1.trans (hb2.mono bel1.size)⟩
  case rest =>
  obtain ⟨n, b, k, rfl, rfl, rfl, hk, B2, bel2⟩ := hcut
  clear B bel hm hmt
  go_upto_region 4 with fail
  go_cut [65] (fun s65 wx => s65 = .bool false ∧ Blk wx gx 23 #[.int .i64 t, .string T] ∧ Below w.heap.size w wx)
  case first =>
    rcases hk with ⟨h2, rfl, rfl, rfl⟩ | ⟨h2, rfl⟩
    · have x : ((49153 + (m : Int)) != 49155) = true := by simp; omega
      clear h2
      go_wp2_with (go_at_call 15; refine (awake_any _).mono ?_; rintro e w5 ⟨rfl, hb5⟩; have B7 := B2.below hb5 B2.lt; have bel5 := bel2.trans (hb5.mono bel2.size))
      go_meet
      exact ⟨rfl, B7, bel5⟩
    · subst h2
      go_wp2_with (go_at_call 15; refine (awake_any _).mono ?_; rintro e w5 ⟨rfl, hb5⟩; have B7 := B2.below hb5 B2.lt; have bel5 := bel2.trans (hb5.mono bel2.size))
      go_meet
      exact ⟨rfl, B7, bel5⟩
  case rest =>
  obtain ⟨rfl, B3, bel3⟩ := hcut
  clear B2 bel2 hk
  have C3 := fun i => B3.cell i
  have hK := fun w => kind_any t T 4 w hTm
  have hlt := rdN_lt T 4 (by omega)
  obtain ⟨isK, hisK⟩ : ∃ b : Bool, decide (4 ≤ T.size ∧ (T.size : Int) = 4) = b := ⟨_, rfl⟩
  rw [hisK] at hK
  have HK := Lib.hid hisK
  clear hisK
  go_upto_region 7 with (go_at_call 21; refine (hK _).mono ?_; rintro e w5 ⟨rfl, hb5⟩; have B5 := B3.below hb5 B3.lt; have C5 := fun i => B5.cell i; have bel5 := bel3.trans (hb5.mono bel3.size))
  clear C3 hK B3 bel3 hb5
  go_cut [14, 15] (fun s14 s15 wx => ∃ (c : Nat) (got : Bool), s14 = .int .u32 c ∧ s15 = .bool got ∧ ((t = 5 ∧ T.size = 4 ∧ got = true ∧ c = numV T.data.toList) ∨ (¬ (t = 5 ∧ T.size = 4) ∧ got = false)) ∧ Blk wx gx 23 #[.int .i64 t, .string T] ∧ Below w.heap.size w wx)
  case first =>
    by_cases h : t = 5 ∧ T.size = 4
    · obtain ⟨rfl, h4⟩ := h
      have hA := fun w => asAddr_yes T w h4
      have H4 := Lib.hid h4
      clear h4
      go_wp2_with fail
      refine (hA _).mono ?_
      rintro e w6 ⟨rfl, hb6⟩
      go_wp2_with fail
      go_meet
      exact ⟨_, true, rfl, rfl, .inl ⟨by trivial, H4.out, rfl, rfl⟩, B5.below hb6 B5.lt, bel5.trans (hb6.mono bel5.size)⟩
    · have hA := fun w => asAddr_no t T w h
      have H4 := Lib.hid h
      clear h
      go_wp2_with fail
      refine (hA _).mono ?_
      rintro e w6 ⟨rfl, hb6⟩
      go_wp2_with fail
      go_meet
      exact ⟨0, false, rfl, rfl, .inr ⟨H4.out, rfl⟩, B5.below hb6 B5.lt, bel5.trans (hb6.mono bel5.size)⟩
  case rest =>
  obtain ⟨c, got, rfl, rfl, hg, B6, bel6⟩ := hcut
  clear B5 C5 bel5
  go_upto_region 8 with fail
  go_cut [93] (fun s93 wx => s93 = .bool false ∧ Blk wx gx 23 #[.int .i64 t, .string T] ∧ Below w.heap.size w wx)
  case first =>
    have k0 := cell_regrown (B6.cell 0)
    have k1 := cell_regrown (B6.cell 1)
    rcases hg with ⟨rfl, h4, rfl, rfl⟩ | ⟨hn, rfl⟩
    · have hi1 : isK = true := by rw [← HK.out]; simp; omega
      subst hi1
      have hU := fun w => u32_p (numV T.data.toList) w (by omega) (by have := numV_lt 4 T.data.toList (by rw [len_data]; exact h4); omega)
      rw [p4_of h4] at hU
      clear h4 HK
      generalize numV T.data.toList = c at *
      refine wp_region_quiet_below (by kernel_rfl) (by kernel_rfl) ?_
      repeat (any_goals (first | go_big_quiet_step ((go_at_call 23; exact Calls.regrown_of (hU _))) | quiet_step ((go_at_call 23; exact Calls.regrown_of (hU _)))))
      refine wpQuiet_nil ?_
      intro _ hw'
      obtain ⟨⟨dq, osq⟩, hw''⟩ := hw'
      subst hw''
      go_wp2
      go_meet
      exact ⟨rfl, B6.below (below_regrown _ dq osq) B6.lt, bel6.trans ((below_regrown _ dq osq).mono bel6.size)⟩
    · by_cases ht5 : t = 5
      · subst ht5
        have hi1 : isK = false := by rw [← HK.out]; simp; omega
        subst hi1
        clear hn HK
        refine wp_region_quiet_below (by kernel_rfl) (by kernel_rfl) ?_
        repeat (any_goals (first | go_big_quiet_step (fail) | quiet_step (fail)))
        refine wpQuiet_nil ?_
        intro _ hw'
        obtain ⟨⟨dq, osq⟩, hw''⟩ := hw'
        subst hw''
        go_wp2
        go_meet
        exact ⟨rfl, B6.below (below_regrown _ dq osq) B6.lt, bel6.trans ((below_regrown _ dq osq).mono bel6.size)⟩
      · have x : (t == 5) = false := by simpa using ht5
        clear hn HK ht5
        refine wp_region_quiet_below (by kernel_rfl) (by kernel_rfl) ?_
        repeat (any_goals (first | go_big_quiet_step (fail) | quiet_step (fail)))
        refine wpQuiet_nil ?_
        intro _ hw'
        obtain ⟨⟨dq, osq⟩, hw''⟩ := hw'
        subst hw''
        go_wp2
        go_meet
        exact ⟨rfl, B6.below (below_regrown _ dq osq) B6.lt, bel6.trans ((below_regrown _ dq osq).mono bel6.size)⟩
  case rest =>
  obtain ⟨rfl, B7, bel7⟩ := hcut
  clear B6 bel6 hg HK
  have hK := fun w => kind_any t T 12 w hTm
  have C7 := fun i => B7.cell i
  by_cases hq : isAsk t ∧ IsReq T
  · obtain ⟨h1, h2⟩ := hq
    have hA := fun w => asReq_yes t T w h1 h2
    obtain ⟨h3, h4⟩ := h2
    have e1 : rdN T 4 = numV (T.extract 0 4).data.toList := by unfold rdN; rw [if_pos (by omega), take_data]
    rw [decide_eq_true ⟨by omega, by omega⟩, e1] at hK
    rw [e1] at hlt
    rcases h1 with rfl | rfl | rfl
    all_goals
      clear e1
      generalize numV (T.extract 0 4).data.toList = N1 at *
      generalize numV (T.extract 8 12).data.toList = N3 at *
      go_wp2_with (first | (go_at_call 19; refine (hA _).mono ?_; rintro e w8 ⟨rfl, hb8⟩; have B8 := B7.below hb8 B7.lt; have C8 := fun i => B8.cell i) | (go_at_call 21; refine (hK _).mono ?_; rintro e w9 ⟨rfl, hb9⟩; have B9 := B8.below hb9 B8.lt; have C9 := fun i => B9.cell i))
      go_ret
      exact ⟨rfl, (bel7.trans (hb8.mono bel7.size)).trans (hb9.mono (Nat.le_trans bel7.size hb8.size))⟩
  · have hA := fun w => asReq_no t T w hTm hq
    have HQ := Lib.hid hq
    clear hq
    by_cases h1 : isAsk t
    · by_cases h12 : T.size = 12
      · have hne := ne_hdr (s := T.extract 4 8) (fun q => HQ.out ⟨h1, h12, q⟩)
        rw [decide_eq_true ⟨by omega, by omega⟩] at hK
        rcases h1 with rfl | rfl | rfl
        all_goals
          generalize rdN T 4 = N1 at *
          go_wp2_with (first | (go_at_call 19; refine (hA _).mono ?_; rintro e w8 ⟨rfl, hb8⟩; have B8 := B7.below hb8 B7.lt; have C8 := fun i => B8.cell i) | (go_at_call 21; refine (hK _).mono ?_; rintro e w9 ⟨rfl, hb9⟩; have B9 := B8.below hb9 B8.lt; have C9 := fun i => B9.cell i))
          go_ret
          exact ⟨rfl, (bel7.trans (hb8.mono bel7.size)).trans (hb9.mono (Nat.le_trans bel7.size hb8.size))⟩
      · rw [decide_eq_false (by omega)] at hK
        clear h12
        rcases h1 with rfl | rfl | rfl
        all_goals
          generalize rdN T 4 = N1 at *
          go_wp2_with (first | (go_at_call 19; refine (hA _).mono ?_; rintro e w8 ⟨rfl, hb8⟩; have B8 := B7.below hb8 B7.lt; have C8 := fun i => B8.cell i) | (go_at_call 21; refine (hK _).mono ?_; rintro e w9 ⟨rfl, hb9⟩; have B9 := B8.below hb9 B8.lt; have C9 := fun i => B9.cell i))
          go_ret
          exact ⟨rfl, (bel7.trans (hb8.mono bel7.size)).trans (hb9.mono (Nat.le_trans bel7.size hb8.size))⟩
    · unfold isAsk at h1
      have x1 : (t == 49153) = false := by simp; omega
      have x2 : (t == 49154) = false := by simp; omega
      have x3 : (t == 49156) = false := by simp; omega
      generalize rdN T 4 = N1 at *
      generalize decide (4 ≤ T.size ∧ (T.size : Int) = 12) = bK at *
      clear h1
      go_wp2_with (first | (go_at_call 19; refine (hA _).mono ?_; rintro e w8 ⟨rfl, hb8⟩; have B8 := B7.below hb8 B7.lt; have C8 := fun i => B8.cell i) | (go_at_call 21; refine (hK _).mono ?_; rintro e w9 ⟨rfl, hb9⟩; have B9 := B8.below hb9 B8.lt; have C9 := fun i => B9.cell i))
      go_ret
      exact ⟨rfl, (bel7.trans (hb8.mono bel7.size)).trans (hb9.mono (Nat.le_trans bel7.size hb8.size))⟩
end Go.Proofs.Ytlpklnjnfeodaaa.par
