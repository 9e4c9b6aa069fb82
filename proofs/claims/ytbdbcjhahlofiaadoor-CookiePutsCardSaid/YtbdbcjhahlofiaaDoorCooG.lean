/- Layer 10: whatever bytes come, sealed by whatever. -/
import Derived.Test.YtbdbcjhahlofiaaDoorCooF
import Derived.Test.YtbdbcjhahlofiaaDoorMacF
namespace Go.Proofs.YtbdbcjhahlofiaaDoor.coo
open Go.Sort (grow)
open Go.ChangeShapes Go.WideShapes Go.ChangeAt Go.RowKit kit oct
open dig (Starts Added)
open mac (macS macS_size mac_any refmac_any is_any firsts firsts_size slice_first)
set_option maxRecDepth 100000

theorem parse_wf {b : ByteArray} (h : okR b) : (parse b).wf := by
  obtain ⟨hz, hm, hmay⟩ := h
  have hs : sizes.sum = 84 := rfl
  have hq := cut_sizes sizes b (by omega)
  have h0 := hmay.1
  have hX := hmay.2.2.2.2.2.2.2.1
  have hY := hmay.2.2.2.2.2.2.2.2
  obtain ⟨p7, p7'⟩ := hmay.2.2.2.1
  obtain ⟨p8, p8'⟩ := hmay.2.2.2.2.1
  obtain ⟨p9, p9'⟩ := hmay.2.2.2.2.2.1
  obtain ⟨p10, p10'⟩ := hmay.2.2.2.2.2.2.1
  have e4 : (256 ^ 4 : Nat) = 4294967296 := rfl
  have key : is32 (parse b).mine ∧ is32 (parse b).yours ∧ is32 (parse b).myTsn ∧ is32 (parse b).yourTsn ∧ is32 (parse b).peer ∧ is32 (parse b).loc ∧ is32 (parse b).rwnd ∧ is32 (parse b).tieMine ∧ is32 (parse b).tieYours := by
    unfold parse
    clear hm hmay h0 hX hY p7 p7' p8 p8' p9 p9' p10 p10'
    obtain ⟨q0, q1, q2, q3, q4, q5, q6, q7, q8, q9, q10, q11, q12, q13, q14, q15, hcut, a0, a1, a2, a3, a4, a5, a6, a7, a8, a9, a10, a11, a12, a13, a14, a15⟩ := parts16 hq
    rw [hcut]
    have b1 := num_lt q1 4 a1
    have b2 := num_lt q2 4 a2
    have b3 := num_lt q3 4 a3
    have b4 := num_lt q4 4 a4
    have b5 := num_lt q5 4 a5
    have b6 := num_lt q6 4 a6
    have b9 := num_lt q9 4 a9
    have b12 := num_lt q12 4 a12
    have b13 := num_lt q13 4 a13
    rw [e4] at b1 b2 b3 b4 b5 b6 b9 b12 b13
    unfold ofParts is32
    simp only [List.getD_cons_zero, List.getD_cons_succ]
    exact ⟨by omega, by omega, by omega, by omega, by omega, by omega, by omega, by omega, by omega⟩
  obtain ⟨k1, k2, k3, k4, k5, k6, k7, k8, k9⟩ := key
  exact ⟨by omega, by omega, k1, k2, k3, k4, k5, k6, k7, k8, k9, ⟨by omega, by omega⟩, ⟨by omega, by omega⟩, ⟨by omega, by omega⟩, ⟨by omega, by omega⟩, by rw [hX]; decide, by rw [hY]; decide⟩
theorem body_tail (t : ByteArray) (h : 20 ≤ t.size) : body t ++ tail t = t := by
  unfold body tail
  rw [ByteArray.extract_append_extract]
  apply ByteArray.ext
  simp
/-- The ways in which bytes are got or not. -/
theorem ways (key t : ByteArray) : (t.size < 20 ∧ getE key t 0 = 2) ∨ (20 ≤ t.size ∧ tail t ≠ macS key (body t) ∧ getE key t 0 = 100) ∨ (20 ≤ t.size ∧ tail t = macS key (body t) ∧ t.size < 104 ∧ getE key t 0 = 2) ∨ (104 ≤ t.size ∧ tail t = macS key (body t) ∧ getE key t 0 = 3 ∧ getT key t 0 = 0) ∨
    (104 ≤ t.size ∧ tail t = macS key (body t) ∧ getE key t 0 = 0 ∧ getT key t 0 = 0 ∧ (getC key t).may ∧ (getC key t).wf ∧ (getC key t).bytes ++ macS key (getC key t).bytes = t) := by
  by_cases h20 : t.size < 20
  · exact .inl ⟨h20, by unfold getE; rw [if_pos h20]⟩
  by_cases hq : tail t = macS key (body t)
  · have hbz : (body t).size = t.size - 20 := by unfold body; simp
    by_cases h104 : t.size < 104
    · refine .inr (.inr (.inl ⟨by omega, hq, h104, ?_⟩))
      have ho : ¬ okR (body t) := fun h => by have := h.1; omega
      unfold getE readE
      rw [if_neg h20, if_pos hq, if_neg ho, if_pos (by omega)]
    · by_cases ho : okR (body t)
      · have hr : readC (body t) = parse (body t) := by unfold readC; rw [if_pos ho]
        have hl : ¬ lateP (readC (body t)) 0 := by
          rintro ⟨h, _⟩
          rw [hr] at h
          have := ho.2.2.1
          omega
        have hC : getC key t = parse (body t) := by unfold getC; rw [if_pos ⟨by omega, hq⟩, hr]
        refine .inr (.inr (.inr (.inr ⟨by omega, hq, ?_, ?_, ?_, ?_, ?_⟩)))
        · unfold getE; rw [if_neg h20, if_pos hq, if_pos ho, if_neg hl]
        · unfold getT; rw [if_neg (fun h => hl h.2.2.2)]
        · rw [hC]; exact ho.2.2
        · rw [hC]; exact parse_wf ho
        · rw [hC, bytes_parse ho.1, ← hq]; exact body_tail t (by omega)
      · refine .inr (.inr (.inr (.inl ⟨by omega, hq, ?_, ?_⟩)))
        · unfold getE readE
          rw [if_neg h20, if_pos hq, if_neg ho, if_neg (by omega), if_neg ho]
        · unfold getT; rw [if_neg (fun h => ho h.2.2.1)]
  · refine .inr (.inl ⟨by omega, hq, ?_⟩)
    unfold getE
    rw [if_neg h20, if_neg hq]
set_option maxHeartbeats 8000000 in
theorem gets_law (key s : ByteArray) (right : Bool) (w : World) (S0 : Starts w) (A : Added w) (hk : key.size ≤ maxLen) (hs : s.size ≤ maxLen) : Calls Tryd.prog 4 #[.string key, .string s, .bool right] w fun e w' => e = .returned (.bool true) ∧ Below w.heap.size w w' := by
  have hK := fun w => slice_first 70 key w
  have hT := fun w => slice_first 130 s w
  simp only [show ((70 : Nat) : Int) = 70 from rfl] at hK
  simp only [show ((130 : Nat) : Int) = 130 from rfl] at hT
  have lK := firsts_size 70 key
  have lT := firsts_size 130 s
  generalize firsts 70 key = KK at *
  generalize firsts 130 s = TT at *
  have hRf := fun w => refmac_any KK TT w (by omega) (by omega)
  have hM := macS_size KK TT
  generalize macS KK TT = M at *
  unfold maxLen at hk hs
  have HS := Lib.hid S0
  have HA := Lib.hid A
  clear S0 A
  go_enter Tryd.func4, Tryd.ntmps4
  go_upto_region 1 with (fail)
  refine wp_region_still_tail 11 (by kernel_rfl) (by kernel_rfl) ?_
  simp only [List.take_succ_cons, List.take_zero, List.drop_succ_cons, List.drop_zero]
  repeat still_step
  refine wpStill_nil ?_
  change wpList _ _ _ _ _ w.drew
  have bel0 := (Below.refl w.heap.size w).drew
  generalize w.drew = w0 at *
  clear hK hT
  go_upto_region 2 with (fail)
  go_upto_if 22 with (fail)
  go_cut [8] (fun s8 wx => ∃ t : ByteArray, s8 = .string t ∧ t.size ≤ 150 ∧ Below w.heap.size w wx)
  case first =>
    cases right with
    | true =>
      go_wp2_with fail
      refine (hRf _).mono ?_
      rintro e w1 ⟨rfl, hb1⟩
      have hMz : M.size ≤ 20 := by omega
      clear hM
      go_wp2_with fail
      go_meet
      exact ⟨_, rfl, by rw [ByteArray.size_append]; omega, bel0.trans (hb1.mono bel0.size)⟩
    | false =>
      go_wp2_with fail
      go_meet
      exact ⟨_, rfl, by omega, bel0⟩
  case rest =>
  obtain ⟨t, rfl, ht, bel1⟩ := hcut
  clear hRf hM bel0 lT hs
  have hG := get_any KK t 0 wc (HS.out.below bel1) (HA.out.below bel1) (by omega) (by omega) (by omega)
  have hW := Lib.hid (ways KK t)
  have hPut := Lib.hid (fun (c : Ck) hm hw (w : World) => rput_yes KK c hm hw w (by omega))
  generalize getC KK t = c at *
  generalize getE KK t 0 = E at *
  generalize getT KK t 0 = L at *
  obtain ⟨made, mine, yours, myTsn, yourTsn, peer, loc, peerPort, myPort, rwnd, out, inn, tieMine, tieYours, X, Y⟩ := c
  dsimp only [Ck.cells] at hG
  go_wp2_with fail
  refine hG.mono ?_
  rintro e w2 ⟨rfl, hb2⟩
  have bel2 := bel1.trans (hb2.mono bel1.size)
  clear hG bel1 hb2
  go_upto_region 5 with (fail)
  have U3 := Blk.new w2 25 #[.int .i64 made, .int .u32 mine, .int .u32 yours, .int .u32 myTsn, .int .u32 yourTsn, .int .u32 peer, .int .u32 loc, .int .i64 peerPort, .int .i64 myPort, .int .u32 rwnd, .int .i64 out, .int .i64 inn, .int .u32 tieMine, .int .u32 tieYours, .string X, .string Y]
  have bel3 := bel2.alloc bel2.size (.cells #[.int .i64 made, .int .u32 mine, .int .u32 yours, .int .u32 myTsn, .int .u32 yourTsn, .int .u32 peer, .int .u32 loc, .int .i64 peerPort, .int .i64 myPort, .int .u32 rwnd, .int .i64 out, .int .i64 inn, .int .u32 tieMine, .int .u32 tieYours, .string X, .string Y] 25)
  clear bel2
  generalize w2.alloc (.cells #[.int .i64 made, .int .u32 mine, .int .u32 yours, .int .u32 myTsn, .int .u32 yourTsn, .int .u32 peer, .int .u32 loc, .int .i64 peerPort, .int .i64 myPort, .int .u32 rwnd, .int .i64 out, .int .i64 inn, .int .u32 tieMine, .int .u32 tieYours, .string X, .string Y] 25) = w3 at *
  generalize w2.heap.size = g at *
  have S3 := HS.out.below bel3
  have A3 := HA.out.below bel3
  have hA := awake10 w3 S3 A3
  rcases hW.out with ⟨h, rfl⟩ | ⟨h, hq, rfl⟩ | ⟨h, hq, h2, rfl⟩ | ⟨h, hq, rfl, rfl⟩ | ⟨h, hq, rfl, rfl, hm, hwf, hput⟩
  · have hd : decide ((t.size : Int) < 20) = true := decide_eq_true (by omega)
    clear hW hPut U3 HS HA S3 A3
    go_wp2_with fail
    refine hA.mono ?_
    rintro e w4 ⟨rfl, hb4⟩
    have bel4 := bel3.trans (hb4.mono bel3.size)
    go_wp2_with fail
    go_ret
    exact ⟨rfl, bel4⟩
  · have hd : decide ((t.size : Int) < 20) = false := decide_eq_false (by omega)
    have sl1 := fun w => slice_body t (by omega) w
    have sl2 := fun w => slice_tail t (by omega) w
    have hbz : (body t).size ≤ 150 := by unfold body; simp; omega
    have hR2 := fun w => refmac_any KK (body t) w (by omega) (by omega)
    have hcmp : ((macS KK (body t)).toList == (tail t).toList) = false := by rw [mac.str_same]; exact decide_eq_false (by first | exact fun e => hq e.symm | exact hq.symm)
    generalize macS KK (body t) = MB at *
    have HQ := Lib.hid hq
    clear hq
    go_upto_region 7 with (fail)
    refine wp_region_quiet_below (by kernel_rfl) (by kernel_rfl) ?_
    repeat (any_goals (first | go_big_quiet_step (((go_at_call 15; exact Calls.regrown_of (hR2 _)))) | quiet_step (((go_at_call 15; exact Calls.regrown_of (hR2 _))))))
    refine wpQuiet_nil ?_
    intro _ hw'
    obtain ⟨⟨dq, osq⟩, hw''⟩ := hw'
    subst hw''
    have U4 := U3.below (below_regrown w3 dq osq) U3.lt
    have bel5 := bel3.trans ((below_regrown w3 dq osq).mono bel3.size)
    have hA := awake10 _ (S3.below (below_regrown w3 dq osq)) (A3.below (below_regrown w3 dq osq))
    clear U3 bel3 S3 A3 hR2 sl1 sl2 hbz
    generalize grow (redrawn w3 dq) osq = w5 at *
    clear hW hPut U4 HS HA
    go_wp2_with fail
    refine hA.mono ?_
    rintro e w4 ⟨rfl, hb4⟩
    have bel4 := bel5.trans (hb4.mono bel5.size)
    go_wp2_with fail
    go_ret
    exact ⟨rfl, bel4⟩
  · have hd : decide ((t.size : Int) < 20) = false := decide_eq_false (by omega)
    have sl1 := fun w => slice_body t (by omega) w
    have sl2 := fun w => slice_tail t (by omega) w
    have hbz : (body t).size ≤ 150 := by unfold body; simp; omega
    have hR2 := fun w => refmac_any KK (body t) w (by omega) (by omega)
    have hcmp : ((macS KK (body t)).toList == (tail t).toList) = true := by rw [mac.str_same]; exact decide_eq_true (by first | exact fun e => hq e.symm | exact hq.symm)
    generalize macS KK (body t) = MB at *
    have HQ := Lib.hid hq
    clear hq
    go_upto_region 7 with (fail)
    refine wp_region_quiet_below (by kernel_rfl) (by kernel_rfl) ?_
    repeat (any_goals (first | go_big_quiet_step (((go_at_call 15; exact Calls.regrown_of (hR2 _)))) | quiet_step (((go_at_call 15; exact Calls.regrown_of (hR2 _))))))
    refine wpQuiet_nil ?_
    intro _ hw'
    obtain ⟨⟨dq, osq⟩, hw''⟩ := hw'
    subst hw''
    have U4 := U3.below (below_regrown w3 dq osq) U3.lt
    have bel5 := bel3.trans ((below_regrown w3 dq osq).mono bel3.size)
    have hA := awake10 _ (S3.below (below_regrown w3 dq osq)) (A3.below (below_regrown w3 dq osq))
    clear U3 bel3 S3 A3 hR2 sl1 sl2 hbz
    generalize grow (redrawn w3 dq) osq = w5 at *
    have hd2 : decide ((t.size : Int) < 104) = true := decide_eq_true (by omega)
    clear hW hPut U4 HS HA
    go_wp2_with fail
    refine hA.mono ?_
    rintro e w4 ⟨rfl, hb4⟩
    have bel4 := bel5.trans (hb4.mono bel5.size)
    go_wp2_with fail
    go_ret
    exact ⟨rfl, bel4⟩
  · have hd : decide ((t.size : Int) < 20) = false := decide_eq_false (by omega)
    have sl1 := fun w => slice_body t (by omega) w
    have sl2 := fun w => slice_tail t (by omega) w
    have hbz : (body t).size ≤ 150 := by unfold body; simp; omega
    have hR2 := fun w => refmac_any KK (body t) w (by omega) (by omega)
    have hcmp : ((macS KK (body t)).toList == (tail t).toList) = true := by rw [mac.str_same]; exact decide_eq_true (by first | exact fun e => hq e.symm | exact hq.symm)
    generalize macS KK (body t) = MB at *
    have HQ := Lib.hid hq
    clear hq
    go_upto_region 7 with (fail)
    refine wp_region_quiet_below (by kernel_rfl) (by kernel_rfl) ?_
    repeat (any_goals (first | go_big_quiet_step (((go_at_call 15; exact Calls.regrown_of (hR2 _)))) | quiet_step (((go_at_call 15; exact Calls.regrown_of (hR2 _))))))
    refine wpQuiet_nil ?_
    intro _ hw'
    obtain ⟨⟨dq, osq⟩, hw''⟩ := hw'
    subst hw''
    have U4 := U3.below (below_regrown w3 dq osq) U3.lt
    have bel5 := bel3.trans ((below_regrown w3 dq osq).mono bel3.size)
    have hA := awake10 _ (S3.below (below_regrown w3 dq osq)) (A3.below (below_regrown w3 dq osq))
    clear U3 bel3 S3 A3 hR2 sl1 sl2 hbz
    generalize grow (redrawn w3 dq) osq = w5 at *
    have hd2 : decide ((t.size : Int) < 104) = false := decide_eq_false (by omega)
    clear hW hPut U4 HS HA
    go_wp2_with fail
    refine hA.mono ?_
    rintro e w4 ⟨rfl, hb4⟩
    have bel4 := bel5.trans (hb4.mono bel5.size)
    go_wp2_with fail
    go_ret
    exact ⟨rfl, bel4⟩
  · have hP := hPut.out _ hm hwf
    rw [hput] at hP
    dsimp only [Ck.cells] at hP
    have hd : decide ((t.size : Int) < 20) = false := decide_eq_false (by omega)
    have sl1 := fun w => slice_body t (by omega) w
    have sl2 := fun w => slice_tail t (by omega) w
    have hbz : (body t).size ≤ 150 := by unfold body; simp; omega
    have hR2 := fun w => refmac_any KK (body t) w (by omega) (by omega)
    have hcmp : ((macS KK (body t)).toList == (tail t).toList) = true := by rw [mac.str_same]; exact decide_eq_true (by first | exact fun e => hq e.symm | exact hq.symm)
    generalize macS KK (body t) = MB at *
    have HQ := Lib.hid hq
    clear hq
    go_upto_region 7 with (fail)
    refine wp_region_quiet_below (by kernel_rfl) (by kernel_rfl) ?_
    repeat (any_goals (first | go_big_quiet_step (((go_at_call 15; exact Calls.regrown_of (hR2 _)))) | quiet_step (((go_at_call 15; exact Calls.regrown_of (hR2 _))))))
    refine wpQuiet_nil ?_
    intro _ hw'
    obtain ⟨⟨dq, osq⟩, hw''⟩ := hw'
    subst hw''
    have U4 := U3.below (below_regrown w3 dq osq) U3.lt
    have bel5 := bel3.trans ((below_regrown w3 dq osq).mono bel3.size)
    have hA := awake10 _ (S3.below (below_regrown w3 dq osq)) (A3.below (below_regrown w3 dq osq))
    clear U3 bel3 S3 A3 hR2 sl1 sl2 hbz
    generalize grow (redrawn w3 dq) osq = w5 at *
    have hd2 : decide ((t.size : Int) < 104) = false := decide_eq_false (by omega)
    have szR : (Tryd.prog.info? 25).map (·.size) = some (#[.int .i64 made, .int .u32 mine, .int .u32 yours, .int .u32 myTsn, .int .u32 yourTsn, .int .u32 peer, .int .u32 loc, .int .i64 peerPort, .int .i64 myPort, .int .u32 rwnd, .int .i64 out, .int .i64 inn, .int .u32 tieMine, .int .u32 tieYours, .string X, .string Y] : Array Value).size := by show _ = some 16; kernel_rfl
    clear hW hPut HS HA hm hwf hput
    go_wp2_with fail
    refine hA.mono ?_
    rintro e w6 ⟨rfl, hb6⟩
    have U6 := U4.below hb6 U4.lt
    have bel6 := bel5.trans (hb6.mono bel5.size)
    clear U4 bel5 hb6
    go_wp2_with (refine wpList_load_at_g (by rfl) 25 _ rfl g 0 rfl #[.int .i64 made, .int .u32 mine, .int .u32 yours, .int .u32 myTsn, .int .u32 yourTsn, .int .u32 peer, .int .u32 loc, .int .i64 peerPort, .int .i64 myPort, .int .u32 rwnd, .int .i64 out, .int .i64 inn, .int .u32 tieMine, .int .u32 tieYours, .string X, .string Y] _ (Cel.of_blk U6) Tryd.underlying25 rfl szR ?_)
    refine (hP _).mono ?_
    rintro e w7 ⟨rfl, hb7⟩
    have bel7 := bel6.trans (hb7.mono bel6.size)
    go_wp2_with fail
    go_ret
    exact ⟨ret_true (by simp), bel7⟩
end Go.Proofs.YtbdbcjhahlofiaaDoor.coo
