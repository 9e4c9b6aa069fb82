/- Layer 28: the law. -/
import Derived.Test.YtdocphkpeonldaaRecL
namespace Go.Proofs.Ytdocphkpeonldaa.rec_
open Go.Sort (grow)
open Go.ChangeShapes Go.WideShapes Go.ChangeAt Go.RowKit kit oct
set_option maxRecDepth 100000

set_option maxHeartbeats 4000000 in
theorem law_any (t : Int) (s : ByteArray) (hl : s.size ≤ maxLen) (id : Nat) (hi : id ≤ 4294967295) (n : Int) (w : World) :
    Calls Try.prog 3 #[.agg #[.int .i64 t, .string s], .int .u32 id, .int .i64 n] w fun e w' => e = .returned (.bool true) ∧ Below w.heap.size w w' := by
  have hm := i64_mask n 16 (by omega)
  obtain ⟨p, hp⟩ : ∃ p : Nat, n % (2 ^ 16 : Nat) = (p : Int) := ⟨(n % (2 ^ 16 : Nat)).toNat, by omega⟩
  have hp3 : p ≤ 65535 := by omega
  rw [hp] at hm
  simp only [show ((2 ^ 16 - 1 : Nat) : Int) = 65535 from rfl] at hm
  clear hp
  have hq := i64_mask p 2 (by omega)
  obtain ⟨r, hr⟩ : ∃ r : Nat, (p : Int) % (2 ^ 2 : Nat) = (r : Int) := ⟨p % 4, by omega⟩
  have hr3 : r ≤ 3 := by omega
  have hrp : p = 0 → r = 0 := by omega
  rw [hr] at hq
  simp only [show ((2 ^ 2 - 1 : Nat) : Int) = 3 from rfl] at hq
  clear hr
  obtain ⟨m, hm12⟩ : ∃ m : Nat, min (s.size : Int) 12 = (m : Int) := ⟨min s.size 12, by omega⟩
  have hms : m ≤ s.size := by omega
  obtain ⟨T, hT⟩ : ∃ T, s.extract 0 m = T := ⟨_, rfl⟩
  have hTs : T.size = m := by rw [← hT, ByteArray.size_extract]; omega
  have M1 := Blk.new w 23 #[.int .i64 t, .string s]
  have bel1 := (Below.refl w.heap.size w).alloc (Nat.le_refl _) (.cells #[.int .i64 t, .string s] 23)
  go_enter Try.func3, Try.ntmps3
  go_upto_region 1 with (fail)
  generalize w.alloc (.cells #[.int .i64 t, .string s] 23) = w1 at *
  generalize hx : w.heap.size = x at *
  go_cut [7] (fun s7 wx => s7 = .pointer (some ⟨w1.heap.size, 0, none⟩) ∧ Blk wx w1.heap.size 23 #[.int .i64 t, .string T] ∧ Below x w wx)
  case first =>
    as_aux_lemma =>
      have d0 : w1.cell? ⟨x, 0, none⟩ = some (.int .i64 t) := M1.cell 0
      have d1 : w1.cell? ⟨x, 1, none⟩ = some (.string s) := M1.cell 1
      have e0 : (w1.alloc (.cells #[.int .i64 0, .string ⟨#[]⟩] 23)).cell? ⟨x, 0, none⟩ = some (.int .i64 t) := (M1.alloc _).cell 0
      have e1 : (w1.alloc (.cells #[.int .i64 0, .string ⟨#[]⟩] 23)).cell? ⟨x, 1, none⟩ = some (.string s) := (M1.alloc _).cell 1
      have hxl := M1.lt
      go_region
      all_goals
        go_wp2_with fail
        go_meet
        exact ⟨rfl, (Blk.new w1 23 #[.int .i64 t, .string T]).drew, (bel1.alloc (by omega) (.cells #[.int .i64 t, .string T] 23)).drew⟩
  case rest =>
  obtain ⟨rfl, M2, bel2⟩ := hcut
  have hxq : x ≤ w1.heap.size := by rw [← hx]; exact bel1.size
  clear M1 bel1
  generalize w1.heap.size = q at *
  have hM := fun w => more_any id p hi hp3 w
  have hA : ∀ w, Calls Try.prog 15 #[.agg #[.int .i64 17, .string (mS id p)]] w fun e w' => e = .returned (.tuple #[.int .u32 (if decide (p ≠ 0) then id else 0 : Nat), .int .i64 (if decide (p ≠ 0) then p else 0 : Nat), .bool (decide (p ≠ 0))]) ∧ Below w.heap.size w w' := fun w => by
    have := asMore_any 17 (mS id p) w (by rw [mS_size]; unfold maxLen; omega)
    rw [isM_mS id p hi hp3, (mS_all id p hi hp3).1, (mS_all id p hi hp3).2.1] at this
    exact this
  have hR := fun w => result_any id r hi (by omega) w
  have hB : ∀ w, Calls Try.prog 17 #[.agg #[.int .i64 16, .string (rS id r)]] w fun e w' => e = .returned (.tuple #[.int .u32 (if decide (r = 1 ∨ r = 2) then id else 0 : Nat), .int .i64 (if decide (r = 1 ∨ r = 2) then r else 0 : Nat), .bool (decide (r = 1 ∨ r = 2))]) ∧ Below w.heap.size w w' := fun w => by
    have := asResult_any 16 (rS id r) w (by rw [rS_size]; unfold maxLen; omega)
    rw [isR_rS id r hi (by omega), (rS_all id r hi (by omega)).1, (rS_all id r hi (by omega)).2] at this
    exact this
  go_upto_region 3 with (fail)
  go_cut [9, 10, 11] (fun s9 s10 s11 wx => s9 = .int .u32 (if decide (p ≠ 0) then id else 0 : Nat) ∧ s10 = .int .i64 (if decide (p ≠ 0) then p else 0 : Nat) ∧ s11 = .bool (decide (p ≠ 0)) ∧ Blk wx q 23 #[.int .i64 t, .string T] ∧ Below x w wx)
  case first =>
    as_aux_lemma =>
      go_wp2_with fail
      refine (hM _).mono ?_
      rintro e w3 ⟨rfl, hb3⟩
      have M3 := M2.below hb3 M2.lt
      have bel3 := bel2.trans (hb3.mono (by have := M2.lt; omega))
      go_wp2_with fail
      refine (hA _).mono ?_
      rintro e w4 ⟨rfl, hb4⟩
      have M4 := M3.below hb4 M3.lt
      have bel4 := bel3.trans (hb4.mono (by have := M3.lt; omega))
      generalize (if decide (p ≠ 0) = true then id else 0 : Nat) = A at *
      generalize (if decide (p ≠ 0) = true then p else 0 : Nat) = B at *
      generalize decide (p ≠ 0) = C at *
      go_wp2_with fail
      go_meet
      exact ⟨rfl, rfl, rfl, M4, bel4⟩
  case rest =>
  obtain ⟨rfl, rfl, rfl, M3, bel3⟩ := hcut
  clear M2 bel2 hM hA
  go_upto_region 4 with (fail)
  go_cut [12, 13, 14] (fun s9 s10 s11 wy => s9 = .int .u32 (if decide (r = 1 ∨ r = 2) then id else 0 : Nat) ∧ s10 = .int .i64 (if decide (r = 1 ∨ r = 2) then r else 0 : Nat) ∧ s11 = .bool (decide (r = 1 ∨ r = 2)) ∧ Blk wy q 23 #[.int .i64 t, .string T] ∧ Below x w wy)
  case first =>
    as_aux_lemma =>
      generalize (if decide (p ≠ 0) = true then id else 0 : Nat) = A at *
      generalize (if decide (p ≠ 0) = true then p else 0 : Nat) = B at *
      generalize decide (p ≠ 0) = C at *
      go_wp2_with fail
      refine (hR _).mono ?_
      rintro e w3 ⟨rfl, hb3⟩
      have M4 := M3.below hb3 M3.lt
      have bel4 := bel3.trans (hb3.mono (by have := M3.lt; omega))
      go_wp2_with fail
      refine (hB _).mono ?_
      rintro e w4 ⟨rfl, hb4⟩
      have M5 := M4.below hb4 M4.lt
      have bel5 := bel4.trans (hb4.mono (by have := M4.lt; omega))
      generalize (if decide (r = 1 ∨ r = 2) = true then id else 0 : Nat) = A' at *
      generalize (if decide (r = 1 ∨ r = 2) = true then r else 0 : Nat) = B' at *
      generalize decide (r = 1 ∨ r = 2) = C' at *
      go_wp2_with fail
      go_meet
      exact ⟨rfl, rfl, rfl, M5, bel5⟩
  case rest =>
  obtain ⟨rfl, rfl, rfl, M4, bel4⟩ := hcut
  clear M3 bel3 hR hB
  obtain ⟨A, hA⟩ : ∃ A, (if decide (p ≠ 0) = true then id else 0 : Nat) = A := ⟨_, rfl⟩
  obtain ⟨B, hB⟩ : ∃ B, (if decide (p ≠ 0) = true then p else 0 : Nat) = B := ⟨_, rfl⟩
  obtain ⟨A', hA'⟩ : ∃ A, (if decide (r = 1 ∨ r = 2) = true then id else 0 : Nat) = A := ⟨_, rfl⟩
  obtain ⟨B', hB'⟩ : ∃ B, (if decide (r = 1 ∨ r = 2) = true then r else 0 : Nat) = B := ⟨_, rfl⟩
  obtain ⟨C, hC⟩ : ∃ C, decide (p ≠ 0) = C := ⟨_, rfl⟩
  obtain ⟨C', hC'⟩ : ∃ C, decide (r = 1 ∨ r = 2) = C := ⟨_, rfl⟩
  rw [hA, hB, hA', hB', hC, hC']
  have HA := Lib.hid (And.intro hA (And.intro hB (And.intro hA' (And.intro hB' (And.intro hC hC')))))
  clear hA hB hA' hB' hC hC'
  have HRP := Lib.hid hrp
  clear hrp
  go_upto_region 5 with (fail)
  go_cut [8, 9, 10, 11, 12, 13, 14, 98] (fun _ _ _ _ _ _ _ s98 wz => s98 = .bool false ∧ Blk wz q 23 #[.int .i64 t, .string T] ∧ Below x w wz)
  case first =>
    as_aux_lemma =>
      go_wp2_with fail
      refine (awake28 _).mono ?_
      rintro e w5 ⟨rfl, hb5⟩
      have M5 := M4.below hb5 M4.lt
      have bel5 := bel4.trans (hb5.mono (by have := M4.lt; omega))
      clear M4 bel4 hb5
      obtain ⟨hA, hB, hA', hB', hC, hC'⟩ := HA.out
      have hrp := HRP.out
      clear HA HRP
      by_cases h0 : p = 0
      · have hr0 : r = 0 := hrp h0
        have e1 : ((r : Int) == 1) = false := by simp; omega
        have e2 : ((r : Int) == 2) = false := by simp; omega
        have e3 : decide ((p : Int) > 0) = false := by simp; omega
        obtain rfl : C = false := by rw [← hC]; simp [h0]
        obtain rfl : C' = false := by rw [← hC']; simp; omega
        clear h0 hr0 hrp hA hB hA' hB' hC hC'
        go_wp2_with fail
        all_goals first | (exfalso; have := of_decide_eq_false e3; omega) | (go_meet; exact ⟨rfl, M5, bel5⟩)
      · have hp1 : (p : Int) > 0 := by omega
        have e3 : decide ((p : Int) > 0) = true := by simp; omega
        obtain rfl : C = true := by rw [← hC]; simp [h0]
        obtain rfl : id = A := by rw [← hA]; simp [h0]
        obtain rfl : p = B := by rw [← hB]; simp [h0]
        clear hA hB hC hrp
        by_cases h12 : r = 1 ∨ r = 2
        · obtain rfl : C' = true := by rw [← hC']; simp [h12]
          obtain rfl : id = A' := by rw [← hA']; simp [h12]
          obtain rfl : r = B' := by rw [← hB']; simp [h12]
          clear hA' hB' hC' h0
          rcases h12 with rfl | rfl
          · go_wp2_with fail
            go_meet
            exact ⟨rfl, M5, bel5⟩
          · go_wp2_with fail
            go_meet
            exact ⟨rfl, M5, bel5⟩
        · have e1 : ((r : Int) == 1) = false := by simp; omega
          have e2 : ((r : Int) == 2) = false := by simp; omega
          obtain rfl : C' = false := by rw [← hC']; simpa using h12
          clear hA' hB' hC' h12 h0
          go_wp2_with fail
          go_meet
          exact ⟨rfl, M5, bel5⟩
  case rest =>
  obtain ⟨rfl, M5, bel5⟩ := hcut
  clear M4 bel4 HA HRP
  obtain ⟨iM, hiM⟩ : ∃ b, isM t T = b := ⟨_, rfl⟩
  obtain ⟨iR, hiR⟩ : ∃ b, isR t T = b := ⟨_, rfl⟩
  obtain ⟨kM, hkM⟩ : ∃ k : Nat, (if iM = true then n1 T else 0 : Nat) = k := ⟨_, rfl⟩
  obtain ⟨kR, hkR⟩ : ∃ k : Nat, (if iR = true then n4 T else 0 : Nat) = k := ⟨_, rfl⟩
  obtain ⟨jM, hjM⟩ : ∃ k : Nat, (if iM = true then rdN T 4 else 0 : Nat) = k := ⟨_, rfl⟩
  obtain ⟨jR, hjR⟩ : ∃ k : Nat, (if iR = true then rdN T 4 else 0 : Nat) = k := ⟨_, rfl⟩
  have hTm : T.size ≤ maxLen := by unfold maxLen; omega
  have hAM := fun w => asMore_any t T w hTm
  have hAR := fun w => asResult_any t T w hTm
  rw [hiM, hkM, hjM] at hAM
  rw [hiR, hkR, hjR] at hAR
  have HM := Lib.hid (And.intro hiM hkM)
  have HR := Lib.hid (And.intro hiR hkR)
  have HT := Lib.hid hTs
  have HI := Lib.hid (And.intro hm12 (And.intro hT hTm))
  clear hiM hkM hjM hiR hkR hjR hTs hm12 hT hTm hms
  have szz : (Try.prog.info? 23).map (·.size) = some (#[.int .i64 t, .string T] : Array Value).size := szP t T
  go_upto_region 7 with (fail)
  go_cut [15, 16, 17] (fun s15 s16 s17 wz => s16 = .int .i64 kM ∧ s17 = .bool iM ∧ Blk wz q 23 #[.int .i64 t, .string T] ∧ Below x w wz)
  case first =>
    as_aux_lemma =>
      go_wp2_with (refine wpList_load_at rfl 23 _ rfl q 0 rfl #[.int .i64 t, .string T] _ (Cel.of_blk M5) Try.underlying23 rfl szz ?_)
      refine (hAM _).mono ?_
      rintro e w6 ⟨rfl, hb6⟩
      have M6 := M5.below hb6 M5.lt
      have bel6 := bel5.trans (hb6.mono (by have := M5.lt; omega))
      go_wp2_with fail
      go_meet
      exact ⟨rfl, rfl, M6, bel6⟩
  case rest =>
  obtain ⟨rfl, rfl, M6, bel6⟩ := hcut
  clear M5 bel5 hAM
  go_upto_region 8 with (fail)
  go_cut [18, 19, 20] (fun s18 s19 s20 wz => s19 = .int .i64 kR ∧ s20 = .bool iR ∧ Blk wz q 23 #[.int .i64 t, .string T] ∧ Below x w wz)
  case first =>
    as_aux_lemma =>
      go_wp2_with (refine wpList_load_at rfl 23 _ rfl q 0 rfl #[.int .i64 t, .string T] _ (Cel.of_blk M6) Try.underlying23 rfl szz ?_)
      refine (hAR _).mono ?_
      rintro e w7 ⟨rfl, hb7⟩
      have M7 := M6.below hb7 M6.lt
      have bel7 := bel6.trans (hb7.mono (by have := M6.lt; omega))
      go_wp2_with fail
      go_meet
      exact ⟨rfl, rfl, M7, bel7⟩
  case rest =>
  obtain ⟨rfl, rfl, M7, bel7⟩ := hcut
  clear M6 bel6 hAR
  have x0 : wc.cell? ⟨q, 0, none⟩ = some (.int .i64 t) := M7.cell 0
  have x1 : wc.cell? ⟨q, 1, none⟩ = some (.string T) := M7.cell 1
  go_upto_region 9 with (fail)
  go_cut [21] (fun s21 wz => s21 = .bool iM ∧ wc = wz)
  case first =>
    as_aux_lemma =>
      have hiM := HM.out.1
      by_cases ht : t = 17
      · have ht' : (t == 17) = true := by simpa using ht
        by_cases h8 : T.size = 8
        · have h8' : ((T.size : Int) == 8) = true := by simp; omega
          have E2 := s68 h8
          have E1 := s46 h8
          have Z2 := p2_zl (a := n2 T) (by have := rdN_lt (rdL (rdL T 0 4) (rdE T 0 4) 2) 2 (by omega); unfold n2; omega)
          have Z1 := p2_zl (a := n1 T) (by have := rdN_lt (rdL T 0 4) 2 (by omega); unfold n1; omega)
          have q1 : 6 ≤ T.size := by omega
          have q2 : 4 ≤ T.size := by omega
          by_cases c2 : n2 T = 0
          · have d2 := Z2.2 c2
            have d2' : ((p2 (n2 T)).toList == [0, 0]) = true := by simpa using d2
            by_cases c1 : n1 T = 0
            · have d1 := Z1.2 c1
              have d1' : ((p2 (n1 T)).toList == [0, 0]) = true := by simpa using d1
              obtain rfl : iM = false := by rw [← hiM]; unfold isM; simp [c1]
              clear Z1 Z2 c1 c2 hiM ht
              go_wp2_with fail
              go_meet
              exact ⟨rfl, rfl⟩
            · have d1 : ¬ (p2 (n1 T)).toList = [0, 0] := fun e => c1 (Z1.1 e)
              have d1' : ((p2 (n1 T)).toList == [0, 0]) = false := by simpa using d1
              obtain rfl : iM = true := by rw [← hiM]; unfold isM; simp [c1, c2, ht, h8]
              clear Z1 Z2 c1 c2 hiM ht
              go_wp2_with fail
              go_meet
              exact ⟨rfl, rfl⟩
          · have d2 : ¬ (p2 (n2 T)).toList = [0, 0] := fun e => c2 (Z2.1 e)
            have d2' : ((p2 (n2 T)).toList == [0, 0]) = false := by simpa using d2
            obtain rfl : iM = false := by rw [← hiM]; unfold isM; simp [c2]
            clear Z1 Z2 c2 hiM ht
            go_wp2_with fail
            go_meet
            exact ⟨rfl, rfl⟩
        · have h8' : ((T.size : Int) == 8) = false := by simp; omega
          obtain rfl : iM = false := by rw [← hiM]; unfold isM; simp [h8]
          clear ht
          go_wp2_with fail
          go_meet
          exact ⟨rfl, rfl⟩
      · have ht' : (t == 17) = false := by simpa using ht
        obtain rfl : iM = false := by rw [← hiM]; unfold isM; simp [ht]
        go_wp2_with fail
        go_meet
        exact ⟨rfl, rfl⟩
  case rest =>
  obtain ⟨rfl, hwc⟩ := hcut
  subst hwc
  have x0 : wc.cell? ⟨q, 0, none⟩ = some (.int .i64 t) := M7.cell 0
  have x1 : wc.cell? ⟨q, 1, none⟩ = some (.string T) := M7.cell 1
  go_upto_region 10 with (fail)
  go_cut [22] (fun s22 wz => s22 = .bool iR ∧ wc = wz)
  case first =>
    as_aux_lemma =>
      have hiR := HR.out.1
      by_cases ht : t = 16
      · have ht' : (t == 16) = true := by simpa using ht
        by_cases h8 : T.size = 8
        · have h8' : ((T.size : Int) == 8) = true := by simp; omega
          have E1 := s48 h8
          have hb4 : n4 T ≤ 4294967295 := by have := rdN_lt (rdL T 0 4) 4 (by omega); unfold n4; omega
          have Z1 := (p4_zl hb4).1
          have Z2 := (p4_zl hb4).2
          have q2 : 4 ≤ T.size := by omega
          by_cases c1 : n4 T = 1
          · have d1 := Z1.2 c1
            have d1' : ((p4 (n4 T)).toList == [0, 0, 0, 1]) = true := by simpa using d1
            obtain rfl : iR = true := by rw [← hiR]; unfold isR; simp [c1, ht, h8]
            clear Z1 Z2 c1 hiR hb4 ht
            go_wp2_with fail
            go_meet
            exact ⟨rfl, rfl⟩
          · have d1 : ¬ (p4 (n4 T)).toList = [0, 0, 0, 1] := fun e => c1 (Z1.1 e)
            have d1' : ((p4 (n4 T)).toList == [0, 0, 0, 1]) = false := by simpa using d1
            by_cases c2 : n4 T = 2
            · have d2 := Z2.2 c2
              have d2' : ((p4 (n4 T)).toList == [0, 0, 0, 2]) = true := by simpa using d2
              obtain rfl : iR = true := by rw [← hiR]; unfold isR; simp [c2, ht, h8]
              clear Z1 Z2 c1 c2 hiR hb4 ht
              go_wp2_with fail
              go_meet
              exact ⟨rfl, rfl⟩
            · have d2 : ¬ (p4 (n4 T)).toList = [0, 0, 0, 2] := fun e => c2 (Z2.1 e)
              have d2' : ((p4 (n4 T)).toList == [0, 0, 0, 2]) = false := by simpa using d2
              obtain rfl : iR = false := by rw [← hiR]; unfold isR; simp [c1, c2]
              clear Z1 Z2 c1 c2 hiR hb4 ht
              go_wp2_with fail
              go_meet
              exact ⟨rfl, rfl⟩
        · have h8' : ((T.size : Int) == 8) = false := by simp; omega
          obtain rfl : iR = false := by rw [← hiR]; unfold isR; simp [h8]
          clear ht
          go_wp2_with fail
          go_meet
          exact ⟨rfl, rfl⟩
      · have ht' : (t == 16) = false := by simpa using ht
        obtain rfl : iR = false := by rw [← hiR]; unfold isR; simp [ht]
        go_wp2_with fail
        go_meet
        exact ⟨rfl, rfl⟩
  case rest =>
  obtain ⟨rfl, hwc⟩ := hcut
  subst hwc
  clear x0
  obtain ⟨hiM, hkM⟩ := HM.out
  obtain ⟨hiR, hkR⟩ := HR.out
  have kq0 := cell_regrown x1
  have hb1 : n1 T ≤ 65535 := by have := rdN_lt (rdL T 0 4) 2 (by omega); unfold n1; omega
  have hb4 : n4 T ≤ 4294967295 := by have := rdN_lt (rdL T 0 4) 4 (by omega); unfold n4; omega
  have hP := fun w => put2 (n1 T) hb1 w
  have hF := fun w => four_any (n4 T) hb4 w
  have u1 : IntKind.u64.wrap (n1 T : Int) = n1 T := by show (n1 T : Int) % 18446744073709551616 = n1 T; omega
  have u4 : IntKind.u32.wrap (n4 T : Int) = n4 T := by show (n4 T : Int) % 4294967296 = n4 T; omega
  clear HM HR HI HT szz
  go_upto_region 11 with (fail)
  cases iM
  · cases iR
    · clear hP hF u1 u4 hiM hiR hkM hkR hb1 hb4
      refine wp_region_quiet_below (by kernel_rfl) (by kernel_rfl) ?_
      repeat (any_goals (first | go_big_quiet_step (fail) | quiet_step (fail)))
      refine wpQuiet_nil ?_
      intro _ hw'
      obtain ⟨⟨dq, osq⟩, hw''⟩ := hw'
      subst hw''
      have hbq := below_regrown wc dq osq
      have bel8 := bel7.trans (hbq.mono (by have := M7.lt; omega))
      clear kq0
      generalize grow (redrawn wc dq) osq = w8 at *
      go_wp2_with fail
      go_ret
      exact ⟨rfl, by first | exact bel8 | (rw [hx]; exact bel8)⟩
    · obtain rfl : n4 T = kR := by simpa using hkR
      have h8 : T.size = 8 := by unfold isR at hiR; simp at hiR; exact hiR.2.1
      have E1 := s48 h8
      have q2 : 4 ≤ T.size := by omega
      clear hP u1 hiM hiR hkM hkR hb1 hb4
      refine wp_region_quiet_below (by kernel_rfl) (by kernel_rfl) ?_
      repeat (any_goals (first | go_big_quiet_step ((go_at_call 21; with_reducible exact Calls.regrown_of (hF _))) | quiet_step ((go_at_call 21; with_reducible exact Calls.regrown_of (hF _)))))
      refine wpQuiet_nil ?_
      intro _ hw'
      obtain ⟨⟨dq, osq⟩, hw''⟩ := hw'
      subst hw''
      have hbq := below_regrown wc dq osq
      have bel8 := bel7.trans (hbq.mono (by have := M7.lt; omega))
      clear kq0
      generalize grow (redrawn wc dq) osq = w8 at *
      go_wp2_with fail
      go_ret
      exact ⟨rfl, by first | exact bel8 | (rw [hx]; exact bel8)⟩
  · obtain rfl : n1 T = kM := by simpa using hkM
    have h8 : T.size = 8 := by unfold isM at hiM; simp at hiM; exact hiM.2.1
    have E1 := s46 h8
    have q2 : 4 ≤ T.size := by omega
    have q3 : 6 ≤ T.size := by omega
    cases iR
    · clear hF u4 hiM hiR hkM hkR hb1 hb4
      refine wp_region_quiet_below (by kernel_rfl) (by kernel_rfl) ?_
      repeat (any_goals (first | go_big_quiet_step ((go_at_call 20; with_reducible exact Calls.regrown_of (hP _))) | quiet_step ((go_at_call 20; with_reducible exact Calls.regrown_of (hP _)))))
      refine wpQuiet_nil ?_
      intro _ hw'
      obtain ⟨⟨dq, osq⟩, hw''⟩ := hw'
      subst hw''
      have hbq := below_regrown wc dq osq
      have bel8 := bel7.trans (hbq.mono (by have := M7.lt; omega))
      clear kq0
      generalize grow (redrawn wc dq) osq = w8 at *
      go_wp2_with fail
      go_ret
      exact ⟨rfl, by first | exact bel8 | (rw [hx]; exact bel8)⟩
    · obtain rfl : n4 T = kR := by simpa using hkR
      have E4 := s48 h8
      clear hiM hiR hkM hkR hb1 hb4
      refine wp_region_quiet_below (by kernel_rfl) (by kernel_rfl) ?_
      repeat (any_goals (first | go_big_quiet_step (first | (go_at_call 20; with_reducible exact Calls.regrown_of (hP _)) | (go_at_call 21; with_reducible exact Calls.regrown_of (hF _))) | quiet_step (first | (go_at_call 20; with_reducible exact Calls.regrown_of (hP _)) | (go_at_call 21; with_reducible exact Calls.regrown_of (hF _)))))
      refine wpQuiet_nil ?_
      intro _ hw'
      obtain ⟨⟨dq, osq⟩, hw''⟩ := hw'
      subst hw''
      have hbq := below_regrown wc dq osq
      have bel8 := bel7.trans (hbq.mono (by have := M7.lt; omega))
      clear kq0
      generalize grow (redrawn wc dq) osq = w8 at *
      go_wp2_with fail
      go_ret
      exact ⟨rfl, by first | exact bel8 | (rw [hx]; exact bel8)⟩
end Go.Proofs.Ytdocphkpeonldaa.rec_
