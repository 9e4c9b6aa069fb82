/- Layer 32: who has which address, walked (gen-tor.py wrote this). -/
import Derived.Test.YthjhiogbnacmdaaToQ
import Derived.Test.YthjhiogbnacmdaaToP
namespace Go.Proofs.Ythjhiogbnacmdaa.top
open Go.Sort (grow)
open Go.ChangeShapes Go.WideShapes Go.ChangeAt Go.RowKit kit
set_option maxRecDepth 100000

/-- Who has it, of those from a place on and of so many places of this one. -/
def whoK (y : Int × Int) (M : List (List (Int × Int))) (i : Nat) (L : List (Int × Int)) : Int := if hasP y L = true then (i : Int) else whoD (hasP y) M (i + 1)
theorem whoK_snoc_no {y : Int × Int} {M : List (List (Int × Int))} {i : Nat} {L : List (Int × Int)} {x : Int × Int} (h : ¬ (x.1 = y.1 ∧ x.2 = y.2)) : whoK y M i (L ++ [x]) = whoK y M i L := by
  unfold whoK
  rw [hasP_snoc, show (decide (x.1 = y.1) && decide (x.2 = y.2)) = false by simp only [Bool.and_eq_false_iff, decide_eq_false_iff_not]; by_cases h1 : x.1 = y.1; exact .inr fun h2 => h ⟨h1, h2⟩; exact .inl h1, Bool.or_false]
theorem whoK_snoc_yes {y : Int × Int} {M : List (List (Int × Int))} {i : Nat} {L : List (Int × Int)} {x : Int × Int} (h1 : x.1 = y.1) (h2 : x.2 = y.2) : whoK y M i (L ++ [x]) = (i : Int) := by
  unfold whoK
  rw [hasP_snoc, h1, h2]
  simp
theorem whoK_nil (y : Int × Int) (M : List (List (Int × Int))) (i : Nat) : whoK y M i [] = whoD (hasP y) M (i + 1) := by
  unfold whoK
  rw [hasP_nil, if_neg Bool.false_ne_true]
theorem whoK_all {y : Int × Int} {M : List (List (Int × Int))} {i : Nat} {L : List (Int × Int)} (h : M[i]? = some L) : whoK y M i L = whoD (hasP y) M i := by
  unfold whoK
  rw [whoD_step h]
set_option maxHeartbeats 8000000 in
theorem finds_any (oH oN : Option Addr) (aH aN : Addr) (nH cH nN cN : Nat) (E : Nat → HoA) (EN : Nat → Int × Int) (w : World) (a nt : Int) (hH : HoR w w.heap.size oH aH nH cH E) (hN : PlR w w.heap.size oN aN nN cN EN) :
    Calls Try.prog 6 #[.agg #[.slice oH nH cH, .slice oN nN cN], .int .u32 a, .int .i64 nt] w fun e w' => e = .returned (.bool true) ∧ Below w.heap.size w w' := by
  have X1 := Blk.new w 42 #[.slice oH nH cH, .slice oN nN cN]
  have al1 := (Below.refl w.heap.size w).alloc (Nat.le_refl _) (.cells #[.slice oH nH cH, .slice oN nN cN] 42)
  have hH1 := hH.below al1
  have hN1 := hN.below al1
  have hc := cut32 oH oN aH aN nH cH nN cN E EN w.heap.size _ al1.size hH1 hN1
  clear hH hN hH1 hN1
  go_enter Try.func6, Try.ntmps6
  go_upto_region 1 with fail
  obtain ⟨w1, hw1⟩ : ∃ w1, w.alloc (.cells #[.slice oH nH cH, .slice oN nN cN] 42) = w1 := ⟨_, rfl⟩
  rw [hw1] at X1 al1 hc
  try rw [hw1]
  clear hw1
  have x0 : w1.cell? ⟨w.heap.size, 0, none⟩ = some (.slice oH nH cH) := X1.cell 0
  have x1 : w1.cell? ⟨w.heap.size, 1, none⟩ = some (.slice oN nN cN) := X1.cell 1
  clear X1
  go_wp2_with fail
  refine hc.mono ?_
  rintro e w2 ⟨⟨vH, vN, pv, rfl, T⟩, hb⟩
  have bel2 := al1.trans (hb.mono al1.size)
  obtain ⟨oH', cH', hvH, _, _⟩ := T.H.shape
  obtain ⟨oN', cN', hvN, _, _⟩ := T.N.shape
  subst hvH hvN
  generalize (fun i => tk (E i).EP (min (E i).nP 6)) = hs at T
  generalize tk EN (min nN 6) = ns at T
  generalize min nH 8 = n at T
  obtain ⟨len, hlen⟩ : ∃ len, ns.length = len := ⟨_, rfl⟩
  have Y3 := Blk.new w2 42 #[.slice oH' n cH', .slice oN' len cN']
  have al3 := (Below.refl w2.heap.size w2).alloc (Nat.le_refl _) (.cells #[.slice oH' n cH', .slice oN' len cN'] 42)
  have T3 := T.below al3 (Nat.le_refl _)
  have bel3 := bel2.trans (al3.mono bel2.size)
  clear hc hb al1 bel2 T x0 x1
  rw [hlen] at T3
  go_upto_region 2 with fail
  obtain ⟨w3, hw3⟩ : ∃ w3, w2.alloc (.cells #[.slice oH' n cH', .slice oN' len cN'] 42) = w3 := ⟨_, rfl⟩
  rw [hw3] at Y3 al3 T3 bel3
  try rw [hw3]
  clear hw3 al3
  obtain ⟨yb, hyb⟩ : ∃ yb, w2.heap.size = yb := ⟨_, rfl⟩
  rw [hyb] at Y3
  try rw [hyb]
  clear hyb
  obtain ⟨B1, hB1⟩ : ∃ B1, w3.heap.size = B1 := ⟨_, rfl⟩
  have hyl : yb < B1 := by rw [← hB1]; exact Y3.lt
  have HBL := Lib.hid (show ∀ w', Below B1 w3 w' → Below w.heap.size w w' from fun w' h => bel3.trans (h.mono (by rw [← hB1]; exact bel3.size)))
  have HT := Lib.hid (show ∀ w', Below B1 w3 w' → TM w' _ (.slice oH' n cH') (.slice oN' len cN') pv hs n ns from fun w' h => T3.below h (by omega))
  have HY := Lib.hid (show ∀ w', Below B1 w3 w' → Blk w' yb 42 #[.slice oH' n cH', .slice oN' len cN'] from fun w' h => Y3.below h hyl)
  have hn8 := T3.n8
  have hns6 := T3.s6
  have hp6 := T3.p6
  have bel : Below B1 w3 w3 := Below.refl _ _
  clear T3 Y3 bel3
  -- are the two awake, and may it be?
  have haw := awake_any w3
  rw [hB1] at haw
  go_wp2_with fail
  refine haw.mono ?_
  rintro e w4 ⟨rfl, hb4⟩
  clear haw bel
  have y0 : w4.cell? ⟨yb, 0, none⟩ = some (.slice oH' n cH') := (HY.out _ hb4).cell 0
  have y1 : w4.cell? ⟨yb, 1, none⟩ = some (.slice oN' len cN') := (HY.out _ hb4).cell 1
  have hfn := fine_val (HT.out _ hb4)
  obtain ⟨fb, hfb⟩ : ∃ fb, fineB n hs ns = fb := ⟨_, rfl⟩
  rw [hfb] at hfn
  have hbs4 := hb4.size
  go_wp2_with fail
  refine hfn.mono ?_
  rintro e w5 ⟨rfl, hb5⟩
  have bel := hb4.trans (hb5.mono (by omega))
  clear hfn y0 y1 hb4 hb5 hbs4
  cases fb
  · have haw := awake_any w5
    go_wp2_with fail
    refine haw.mono ?_
    rintro e w6 ⟨rfl, hb6⟩
    have bel6 := bel.trans (hb6.mono (by rw [← hB1]; exact bel.size))
    have HF := Lib.hid (HBL.out _ bel6)
    clear haw bel hb6 bel6
    go_wp2_with fail
    go_ret
    exact ⟨rfl, HF.out⟩
  have fi := (fineB_iff n hs ns).1 hfb
  have HFI := Lib.hid fi
  have hn1 := fi.n1
  clear fi hfb
  generalize w5 = w6 at *
  have y0 : w6.cell? ⟨yb, 0, none⟩ = some (.slice oH' n cH') := (HY.out _ bel).cell 0
  have hnn : (1 : Int) ≤ (n : Int) := by omega
  have hnn8 : (n : Int) ≤ 8 := by omega
  go_upto_region 5 with fail
  generalize bits .and .u32 a 31 = b
  obtain ⟨M, hM⟩ : ∃ M, hol hs n = M := ⟨_, rfl⟩
  have HM := Lib.hid (show M.length = n ∧ ∀ i, i < n → M[i]? = some (hs i) by rw [← hM]; exact ⟨hol_len _ _, fun i h => hol_get _ h⟩)
  have hs35 : (n : Int) - 1 = (n : Int) - 1 := rfl
  go_upto_block 0 with fail
  clear y0 hs35
  go_cut [9] (fun s9 wx => s9 = .int .i64 (idxA (hasP (b, nt)) M) ∧ Below B1 w3 wx)
  case first =>
    go_wp2_with fail
    go_loopw [9, 11] (fun s9 s11 wr => ∃ j : Nat, s11 = .int .i64 ((j : Int) - 1) ∧ j ≤ n ∧ s9 = .int .i64 (whoD (hasP (b, nt)) M j) ∧ Below B1 w3 wr) (fun _ s11 _ => (intOf s11 + 1).toNat)
    case atStart => exact ⟨n, rfl, Nat.le_refl _, (by rw [← HM.out.1, whoD_end]), bel⟩
    case round =>
      rename World => wr
      clear bel
      obtain ⟨j, hj11, hjn, hwho, bel⟩ := hrel
      subst hwho
      rcases j with _ | i
      · have h11 : ((0 : Nat) : Int) - 1 = -1 := by decide
        rw [h11] at hj11
        subst hj11
        have HF := Lib.hid bel
        clear bel h11
        go_wp2_with fail
        go_meet
        exact ⟨by rw [whoD_all], HF.out⟩
      · have h11 : (((i + 1 : Nat) : Int) - 1) = (i : Int) := by omega
        rw [h11] at hj11
        subst hj11
        have hlt : i < n := by omega
        obtain ⟨w0, hw0⟩ : ∃ w0, whoD (hasP (b, nt)) M (i + 1) = w0 := ⟨_, rfl⟩
        rw [hw0]
        have HW0 := Lib.hid hw0
        have T := HT.out _ bel
        have y0 : wr.cell? ⟨yb, 0, none⟩ = some (.slice oH' n cH') := (HY.out _ bel).cell 0
        obtain ⟨hh, off, cap, hv, C⟩ := T.host hlt
        injection hv with hv1 hv2 hv3
        subst hv1
        subst hv3
        obtain ⟨oP, cP, hvp, _, _⟩ := (T.P i hlt).shape
        have c0 : wr.cell? ⟨hh, off + i * 3, none⟩ = some (.slice oP (hs i).length cP) := by rw [← hvp]; exact C.cell 0 rfl
        obtain ⟨m, hmm⟩ : ∃ m, (hs i).length = m := ⟨_, rfl⟩
        rw [hmm] at c0 hvp
        have hi0 : (0 : Int) ≤ (i : Int) := by omega
        have hi1 : (i : Int) < (n : Int) := by omega
        have HV := Lib.hid hvp
        have hm6 := hp6 i hlt
        rw [hmm] at hm6
        clear T C hvp h11 hw0
        go_upto_block 2 with fail
        clear y0 c0
        go_cut [9, 13, 14] (fun s9 s13 s14 wx => s9 = .int .i64 (whoD (hasP (b, nt)) M i) ∧ s13 = .int .i64 (idxA (fun y : Int × Int => decide (y.1 = b)) (hs i)) ∧ s14 = .int .i64 (behindA b (hs i)) ∧ Below B1 w3 wx)
        case first =>
          go_wp2_with fail
          go_loopw [9, 13, 14, 15] (fun s9 s13 s14 s15 wy => ∃ k : Nat, s15 = .int .i64 (k : Nat) ∧ k ≤ m ∧ s13 = .int .i64 (idxA (fun y : Int × Int => decide (y.1 = b)) ((hs i).take k)) ∧ s14 = .int .i64 (behindA b ((hs i).take k)) ∧ s9 = .int .i64 (whoK (b, nt) M i ((hs i).take k)) ∧ Below B1 w3 wy) (fun _ _ _ s15 _ => m - (intOf s15).toNat)
          case atStart => exact ⟨0, rfl, Nat.zero_le _, (by rw [List.take_zero]; rfl), (by rw [List.take_zero]; rfl), (by rw [List.take_zero, whoK_nil, HW0.out]), bel⟩
          case round =>
            rename World => wy
            clear bel
            obtain ⟨k, rfl, hk, h13, h14, h9, bel⟩ := hrel
            obtain ⟨at0, hat0⟩ : ∃ at0, idxA (fun y : Int × Int => decide (y.1 = b)) ((hs i).take k) = at0 := ⟨_, rfl⟩
            obtain ⟨be0, hbe0⟩ : ∃ be0, behindA b ((hs i).take k) = be0 := ⟨_, rfl⟩
            obtain ⟨wh0, hwh0⟩ : ∃ wh0, whoK (b, nt) M i ((hs i).take k) = wh0 := ⟨_, rfl⟩
            rw [hat0] at h13
            rw [hbe0] at h14
            rw [hwh0] at h9
            subst h13 h14 h9
            by_cases hkl : k < m
            · obtain ⟨⟨x1, x2⟩, hx⟩ : ∃ x, (hs i)[k]? = some x := ⟨_, List.getElem?_eq_getElem (by omega)⟩
              have T := HT.out _ bel
              obtain ⟨ph, poff, pcap, hvp, CP⟩ := T.place hlt hx
              rw [hmm, HV.out] at hvp
              injection hvp with hp1 hp2 hp3
              subst hp1
              subst hp3
              have p0 : wy.cell? ⟨ph, poff + k * 2, none⟩ = some (.int .u32 x1) := CP.cell 0 rfl
              have p1 : wy.cell? ⟨ph, poff + k * 2 + 1, none⟩ = some (.int .i64 x2) := CP.cell 1 rfl
              have q1 := cell_regrown p1
              have hk0 : (0 : Int) ≤ (k : Int) := by omega
              have hk1 : (k : Int) < (m : Int) := by omega
              have HX := Lib.hid hx
              have HAT := Lib.hid (show Value.int .i64 at0 = .int .i64 (idxA (fun y : Int × Int => decide (y.1 = b)) ((hs i).take k)) ∧ Value.int .i64 be0 = .int .i64 (behindA b ((hs i).take k)) ∧ Value.int .i64 wh0 = .int .i64 (whoK (b, nt) M i ((hs i).take k)) by rw [hat0, hbe0, hwh0]; exact ⟨rfl, rfl, rfl⟩)
              have hhp := hostP_snoc.1 (by rw [← take_snoc hx]; exact hostP_take (HFI.out.host i hlt) (k + 1) : HostP ns.length ((hs i).take k ++ [(x1, x2)]))
              have HAP := Lib.hid hhp.2.2
              have HOF := Lib.hid (out_fine (ns := ns) (x := (x1, x2)) hhp.2.1.1 hhp.2.1.2)
              have HTL := Lib.hid (show (((hs i).take k).length : Int) = (k : Int) by rw [List.length_take]; omega)
              clear T hx hhp hat0 hbe0 hwh0 hp2
              by_cases e1 : x1 = b
              · have d1 : (x1 == b) = true := by rw [e1]; exact beq_self_eq_true _
                have d1' : decide (x1 = b) = true := decide_eq_true e1
                have E1 := Lib.hid e1
                clear e1
                by_cases e2 : x2 = nt
                · have d2 : (x2 == nt) = true := by rw [e2]; exact beq_self_eq_true _
                  have d2' : decide (x2 = nt) = true := decide_eq_true e2
                  have E2 := Lib.hid e2
                  clear e2
                  by_cases e3 : x2 < 0
                  · go_upto_region 14 with fail
                    clear p0 p1
                    refine wp_region_quiet_below (by kernel_rfl) (by kernel_rfl) ?_
                    repeat (any_goals (first | go_big_quiet_step (fail) | quiet_step (fail)))
                    refine wpQuiet_nil ?_
                    intro _ hw'
                    obtain ⟨⟨dq, osq⟩, hw''⟩ := hw'
                    subst hw''
                    have CW := CP.below (below_regrown _ dq osq) CP.lt
                    have belw := bel.trans ((below_regrown _ dq osq).mono (by rw [← hB1]; exact bel.size))
                    clear q1 bel CP
                    generalize grow (redrawn wy dq) osq = w7 at *
                    have p0 : w7.cell? ⟨ph, poff + k * 2, none⟩ = some (.int .u32 x1) := CW.cell 0 rfl
                    have p1 : w7.cell? ⟨ph, poff + k * 2 + 1, none⟩ = some (.int .i64 x2) := CW.cell 1 rfl
                    have d3' : ¬ (0 : Int) ≤ x2 := by omega
                    have HO := Lib.hid (show outO ns (x1, x2) = x1 from HOF.out.1 e3)
                    have hou := outer_in (HT.out _ belw) i k (x1, x2) hlt HX.out
                    rw [HO.out] at hou
                    have y0 : w7.cell? ⟨yb, 0, none⟩ = some (.slice (some ⟨hh, off, none⟩) n cH') := (HY.out _ belw).cell 0
                    have y1 : w7.cell? ⟨yb, 1, none⟩ = some (.slice oN' len cN') := (HY.out _ belw).cell 1
                    go_wp2_with fail
                    refine hou.mono ?_
                    rintro e w8 ⟨rfl, hb8⟩
                    have bel8 := belw.trans (hb8.mono (by rw [← hB1]; exact belw.size))
                    clear hou y0 y1 p0 p1 CW hb8 belw
                    have HB8 := Lib.hid bel8
                    clear bel8
                    go_wp2_with fail
                    go_roundw
                    case rel => exact ⟨k + 1, by go_num, by omega, by rw [take_snoc HX.out, step_at HAP.out, if_pos E1.out, HTL.out], by rw [take_snoc HX.out, step_behind HAP.out, if_pos E1.out], by rw [take_snoc HX.out, whoK_snoc_yes E1.out E2.out], HB8.out⟩
                    case measure => simp [intOf]; omega
                  · go_upto_region 14 with fail
                    clear p0 p1
                    refine wp_region_quiet_below (by kernel_rfl) (by kernel_rfl) ?_
                    repeat (any_goals (first | go_big_quiet_step (fail) | quiet_step (fail)))
                    refine wpQuiet_nil ?_
                    intro _ hw'
                    obtain ⟨⟨dq, osq⟩, hw''⟩ := hw'
                    subst hw''
                    have CW := CP.below (below_regrown _ dq osq) CP.lt
                    have belw := bel.trans ((below_regrown _ dq osq).mono (by rw [← hB1]; exact bel.size))
                    clear q1 bel CP
                    generalize grow (redrawn wy dq) osq = w7 at *
                    have p0 : w7.cell? ⟨ph, poff + k * 2, none⟩ = some (.int .u32 x1) := CW.cell 0 rfl
                    have p1 : w7.cell? ⟨ph, poff + k * 2 + 1, none⟩ = some (.int .i64 x2) := CW.cell 1 rfl
                    have d3' : (0 : Int) ≤ x2 := by omega
                    obtain ⟨z, hz⟩ : ∃ z : Nat, x2 = (z : Int) := ⟨x2.toNat, by omega⟩
                    obtain ⟨yn, hyn, hout⟩ := HOF.out.2 e3
                    rw [hz, Int.toNat_natCast] at hyn
                    subst hz
                    have hzl : z < len := by have := (List.getElem?_eq_some_iff.1 hyn).1; omega
                    have hz0 : (0 : Int) ≤ (z : Int) := by omega
                    have hz1 : (z : Int) < (len : Int) := by omega
                    obtain ⟨nh, noff, hoN, _, _, CN⟩ := row_at (by have hq := (HT.out _ belw).N; rw [hlen] at hq; exact hq) hlen hyn
                    subst hoN
                    have HO := Lib.hid hout
                    have hou := fun d os => outer_in (HT.out _ (belw.trans ((below_regrown w7 d os).mono (by rw [← hB1]; exact belw.size)))) i k (x1, (z : Int)) hlt HX.out
                    have n0 := cell_regrown (show w7.cell? ⟨nh, noff + z * 2, none⟩ = some (.int .u32 yn.1) from CN.cell 0 rfl)
                    have y0' : w7.cell? ⟨yb, 0, none⟩ = some (.slice (some ⟨hh, off, none⟩) n cH') := (HY.out _ belw).cell 0
                    have y1' : w7.cell? ⟨yb, 1, none⟩ = some (.slice (some ⟨nh, noff, none⟩) len cN') := (HY.out _ belw).cell 1
                    have y0 := cell_regrown y0'
                    have y1 := cell_regrown y1'
                    have r1 := cell_regrown p1
                    go_upto_region 19 with fail
                    clear p0 p1 hyn
                    refine wp_region_quiet_below (by kernel_rfl) (by kernel_rfl) ?_
                    repeat (any_goals (first | go_big_quiet_step (fail) | quiet_step (fail)))
                    refine wpQuiet_nil ?_
                    intro _ hw'
                    obtain ⟨⟨dq, osq⟩, hw''⟩ := hw'
                    subst hw''
                    have belw2 := belw.trans ((below_regrown w7 dq osq).mono (by rw [← hB1]; exact belw.size))
                    have hou2 := hou dq osq
                    rw [HO.out] at hou2
                    have y0q := y0 dq osq
                    have y1q := y1 dq osq
                    clear y0 y1 r1 n0 y0' y1' hou belw CN CW
                    generalize grow (redrawn w7 dq) osq = w9 at *
                    go_wp2_with fail
                    refine hou2.mono ?_
                    rintro e w8 ⟨rfl, hb8⟩
                    have bel8 := belw2.trans (hb8.mono (by rw [← hB1]; exact belw2.size))
                    clear hou2 y0q y1q hb8 belw2
                    have HB8 := Lib.hid bel8
                    clear bel8
                    go_wp2_with fail
                    go_roundw
                    case rel => exact ⟨k + 1, by go_num, by omega, by rw [take_snoc HX.out, step_at HAP.out, if_pos E1.out, HTL.out], by rw [take_snoc HX.out, step_behind HAP.out, if_pos E1.out], by rw [take_snoc HX.out, whoK_snoc_yes E1.out E2.out], HB8.out⟩
                    case measure => simp [intOf]; omega
                · have d2 : (x2 == nt) = false := beq_eq_false_iff_ne.2 e2
                  have d2' : decide (x2 = nt) = false := decide_eq_false e2
                  have E2 := Lib.hid e2
                  clear e2
                  by_cases e3 : x2 < 0
                  · go_upto_region 14 with fail
                    clear p0 p1
                    refine wp_region_quiet_below (by kernel_rfl) (by kernel_rfl) ?_
                    repeat (any_goals (first | go_big_quiet_step (fail) | quiet_step (fail)))
                    refine wpQuiet_nil ?_
                    intro _ hw'
                    obtain ⟨⟨dq, osq⟩, hw''⟩ := hw'
                    subst hw''
                    have CW := CP.below (below_regrown _ dq osq) CP.lt
                    have belw := bel.trans ((below_regrown _ dq osq).mono (by rw [← hB1]; exact bel.size))
                    clear q1 bel CP
                    generalize grow (redrawn wy dq) osq = w7 at *
                    have p0 : w7.cell? ⟨ph, poff + k * 2, none⟩ = some (.int .u32 x1) := CW.cell 0 rfl
                    have p1 : w7.cell? ⟨ph, poff + k * 2 + 1, none⟩ = some (.int .i64 x2) := CW.cell 1 rfl
                    have d3' : ¬ (0 : Int) ≤ x2 := by omega
                    have HO := Lib.hid (show outO ns (x1, x2) = x1 from HOF.out.1 e3)
                    have hou := outer_in (HT.out _ belw) i k (x1, x2) hlt HX.out
                    rw [HO.out] at hou
                    have y0 : w7.cell? ⟨yb, 0, none⟩ = some (.slice (some ⟨hh, off, none⟩) n cH') := (HY.out _ belw).cell 0
                    have y1 : w7.cell? ⟨yb, 1, none⟩ = some (.slice oN' len cN') := (HY.out _ belw).cell 1
                    go_wp2_with fail
                    refine hou.mono ?_
                    rintro e w8 ⟨rfl, hb8⟩
                    have bel8 := belw.trans (hb8.mono (by rw [← hB1]; exact belw.size))
                    clear hou y0 y1 p0 p1 CW hb8 belw
                    have HB8 := Lib.hid bel8
                    clear bel8
                    go_wp2_with fail
                    go_roundw
                    case rel => exact ⟨k + 1, by go_num, by omega, by rw [take_snoc HX.out, step_at HAP.out, if_pos E1.out, HTL.out], by rw [take_snoc HX.out, step_behind HAP.out, if_pos E1.out], by rw [take_snoc HX.out, whoK_snoc_no (fun h => E2.out h.2)]; exact HAT.out.2.2, HB8.out⟩
                    case measure => simp [intOf]; omega
                  · go_upto_region 14 with fail
                    clear p0 p1
                    refine wp_region_quiet_below (by kernel_rfl) (by kernel_rfl) ?_
                    repeat (any_goals (first | go_big_quiet_step (fail) | quiet_step (fail)))
                    refine wpQuiet_nil ?_
                    intro _ hw'
                    obtain ⟨⟨dq, osq⟩, hw''⟩ := hw'
                    subst hw''
                    have CW := CP.below (below_regrown _ dq osq) CP.lt
                    have belw := bel.trans ((below_regrown _ dq osq).mono (by rw [← hB1]; exact bel.size))
                    clear q1 bel CP
                    generalize grow (redrawn wy dq) osq = w7 at *
                    have p0 : w7.cell? ⟨ph, poff + k * 2, none⟩ = some (.int .u32 x1) := CW.cell 0 rfl
                    have p1 : w7.cell? ⟨ph, poff + k * 2 + 1, none⟩ = some (.int .i64 x2) := CW.cell 1 rfl
                    have d3' : (0 : Int) ≤ x2 := by omega
                    obtain ⟨z, hz⟩ : ∃ z : Nat, x2 = (z : Int) := ⟨x2.toNat, by omega⟩
                    obtain ⟨yn, hyn, hout⟩ := HOF.out.2 e3
                    rw [hz, Int.toNat_natCast] at hyn
                    subst hz
                    have hzl : z < len := by have := (List.getElem?_eq_some_iff.1 hyn).1; omega
                    have hz0 : (0 : Int) ≤ (z : Int) := by omega
                    have hz1 : (z : Int) < (len : Int) := by omega
                    obtain ⟨nh, noff, hoN, _, _, CN⟩ := row_at (by have hq := (HT.out _ belw).N; rw [hlen] at hq; exact hq) hlen hyn
                    subst hoN
                    have HO := Lib.hid hout
                    have hou := fun d os => outer_in (HT.out _ (belw.trans ((below_regrown w7 d os).mono (by rw [← hB1]; exact belw.size)))) i k (x1, (z : Int)) hlt HX.out
                    have n0 := cell_regrown (show w7.cell? ⟨nh, noff + z * 2, none⟩ = some (.int .u32 yn.1) from CN.cell 0 rfl)
                    have y0' : w7.cell? ⟨yb, 0, none⟩ = some (.slice (some ⟨hh, off, none⟩) n cH') := (HY.out _ belw).cell 0
                    have y1' : w7.cell? ⟨yb, 1, none⟩ = some (.slice (some ⟨nh, noff, none⟩) len cN') := (HY.out _ belw).cell 1
                    have y0 := cell_regrown y0'
                    have y1 := cell_regrown y1'
                    have r1 := cell_regrown p1
                    go_upto_region 19 with fail
                    clear p0 p1 hyn
                    refine wp_region_quiet_below (by kernel_rfl) (by kernel_rfl) ?_
                    repeat (any_goals (first | go_big_quiet_step (fail) | quiet_step (fail)))
                    refine wpQuiet_nil ?_
                    intro _ hw'
                    obtain ⟨⟨dq, osq⟩, hw''⟩ := hw'
                    subst hw''
                    have belw2 := belw.trans ((below_regrown w7 dq osq).mono (by rw [← hB1]; exact belw.size))
                    have hou2 := hou dq osq
                    rw [HO.out] at hou2
                    have y0q := y0 dq osq
                    have y1q := y1 dq osq
                    clear y0 y1 r1 n0 y0' y1' hou belw CN CW
                    generalize grow (redrawn w7 dq) osq = w9 at *
                    go_wp2_with fail
                    refine hou2.mono ?_
                    rintro e w8 ⟨rfl, hb8⟩
                    have bel8 := belw2.trans (hb8.mono (by rw [← hB1]; exact belw2.size))
                    clear hou2 y0q y1q hb8 belw2
                    have HB8 := Lib.hid bel8
                    clear bel8
                    go_wp2_with fail
                    go_roundw
                    case rel => exact ⟨k + 1, by go_num, by omega, by rw [take_snoc HX.out, step_at HAP.out, if_pos E1.out, HTL.out], by rw [take_snoc HX.out, step_behind HAP.out, if_pos E1.out], by rw [take_snoc HX.out, whoK_snoc_no (fun h => E2.out h.2)]; exact HAT.out.2.2, HB8.out⟩
                    case measure => simp [intOf]; omega
              · have d1 : (x1 == b) = false := beq_eq_false_iff_ne.2 e1
                have d1' : decide (x1 = b) = false := decide_eq_false e1
                have E1 := Lib.hid e1
                clear e1
                by_cases e3 : x2 < 0
                · have CW := CP
                  have belw := bel
                  clear q1 bel CP
                  have hw7 : wy = wy := rfl
                  obtain ⟨w7, hw7⟩ : ∃ w7, wy = w7 := ⟨_, rfl⟩
                  subst hw7
                  have d3' : ¬ (0 : Int) ≤ x2 := by omega
                  have HO := Lib.hid (show outO ns (x1, x2) = x1 from HOF.out.1 e3)
                  have hou := outer_in (HT.out _ belw) i k (x1, x2) hlt HX.out
                  rw [HO.out] at hou
                  have y0 : wy.cell? ⟨yb, 0, none⟩ = some (.slice (some ⟨hh, off, none⟩) n cH') := (HY.out _ belw).cell 0
                  have y1 : wy.cell? ⟨yb, 1, none⟩ = some (.slice oN' len cN') := (HY.out _ belw).cell 1
                  go_wp2_with fail
                  refine hou.mono ?_
                  rintro e w8 ⟨rfl, hb8⟩
                  have bel8 := belw.trans (hb8.mono (by rw [← hB1]; exact belw.size))
                  clear hou y0 y1 p0 p1 CW hb8 belw
                  have HB8 := Lib.hid bel8
                  clear bel8
                  go_wp2_with fail
                  go_roundw
                  case rel => exact ⟨k + 1, by go_num, by omega, by rw [take_snoc HX.out, step_at HAP.out, if_neg E1.out]; exact HAT.out.1, by rw [take_snoc HX.out, step_behind HAP.out, if_neg E1.out]; exact HAT.out.2.1, by rw [take_snoc HX.out, whoK_snoc_no (fun h => E1.out h.1)]; exact HAT.out.2.2, HB8.out⟩
                  case measure => simp [intOf]; omega
                · have CW := CP
                  have belw := bel
                  clear q1 bel CP
                  have hw7 : wy = wy := rfl
                  obtain ⟨w7, hw7⟩ : ∃ w7, wy = w7 := ⟨_, rfl⟩
                  subst hw7
                  have d3' : (0 : Int) ≤ x2 := by omega
                  obtain ⟨z, hz⟩ : ∃ z : Nat, x2 = (z : Int) := ⟨x2.toNat, by omega⟩
                  obtain ⟨yn, hyn, hout⟩ := HOF.out.2 e3
                  rw [hz, Int.toNat_natCast] at hyn
                  subst hz
                  have hzl : z < len := by have := (List.getElem?_eq_some_iff.1 hyn).1; omega
                  have hz0 : (0 : Int) ≤ (z : Int) := by omega
                  have hz1 : (z : Int) < (len : Int) := by omega
                  obtain ⟨nh, noff, hoN, _, _, CN⟩ := row_at (by have hq := (HT.out _ belw).N; rw [hlen] at hq; exact hq) hlen hyn
                  subst hoN
                  have HO := Lib.hid hout
                  have hou := fun d os => outer_in (HT.out _ (belw.trans ((below_regrown wy d os).mono (by rw [← hB1]; exact belw.size)))) i k (x1, (z : Int)) hlt HX.out
                  have n0 := cell_regrown (show wy.cell? ⟨nh, noff + z * 2, none⟩ = some (.int .u32 yn.1) from CN.cell 0 rfl)
                  have y0' : wy.cell? ⟨yb, 0, none⟩ = some (.slice (some ⟨hh, off, none⟩) n cH') := (HY.out _ belw).cell 0
                  have y1' : wy.cell? ⟨yb, 1, none⟩ = some (.slice (some ⟨nh, noff, none⟩) len cN') := (HY.out _ belw).cell 1
                  have y0 := cell_regrown y0'
                  have y1 := cell_regrown y1'
                  have r1 := cell_regrown p1
                  go_upto_region 19 with fail
                  clear p0 p1 hyn
                  refine wp_region_quiet_below (by kernel_rfl) (by kernel_rfl) ?_
                  repeat (any_goals (first | go_big_quiet_step (fail) | quiet_step (fail)))
                  refine wpQuiet_nil ?_
                  intro _ hw'
                  obtain ⟨⟨dq, osq⟩, hw''⟩ := hw'
                  subst hw''
                  have belw2 := belw.trans ((below_regrown wy dq osq).mono (by rw [← hB1]; exact belw.size))
                  have hou2 := hou dq osq
                  rw [HO.out] at hou2
                  have y0q := y0 dq osq
                  have y1q := y1 dq osq
                  clear y0 y1 r1 n0 y0' y1' hou belw CN CW
                  generalize grow (redrawn wy dq) osq = w9 at *
                  go_wp2_with fail
                  refine hou2.mono ?_
                  rintro e w8 ⟨rfl, hb8⟩
                  have bel8 := belw2.trans (hb8.mono (by rw [← hB1]; exact belw2.size))
                  clear hou2 y0q y1q hb8 belw2
                  have HB8 := Lib.hid bel8
                  clear bel8
                  go_wp2_with fail
                  go_roundw
                  case rel => exact ⟨k + 1, by go_num, by omega, by rw [take_snoc HX.out, step_at HAP.out, if_neg E1.out]; exact HAT.out.1, by rw [take_snoc HX.out, step_behind HAP.out, if_neg E1.out]; exact HAT.out.2.1, by rw [take_snoc HX.out, whoK_snoc_no (fun h => E1.out h.1)]; exact HAT.out.2.2, HB8.out⟩
                  case measure => simp [intOf]; omega
            · obtain rfl : k = m := by omega
              have hta : (hs i).take k = hs i := by rw [← hmm]; exact List.take_length
              rw [hta] at hat0 hbe0 hwh0
              have HF := Lib.hid (show Value.int .i64 wh0 = .int .i64 (whoD (hasP (b, nt)) M i) ∧ Value.int .i64 at0 = .int .i64 (idxA (fun y : Int × Int => decide (y.1 = b)) (hs i)) ∧ Value.int .i64 be0 = .int .i64 (behindA b (hs i)) ∧ Below B1 w3 wy by
                rw [← hat0, ← hbe0, ← hwh0, whoK_all (HM.out.2 i hlt)]
                exact ⟨rfl, rfl, rfl, bel⟩)
              clear bel hta hat0 hbe0 hwh0
              go_wp2_with fail
              go_meet
              exact HF.out
        case rest =>
          clear bel
          obtain ⟨h9, h13, h14, bel⟩ := hcut
          obtain ⟨at0, hat0⟩ : ∃ at0, idxA (fun y : Int × Int => decide (y.1 = b)) (hs i) = at0 := ⟨_, rfl⟩
          obtain ⟨be0, hbe0⟩ : ∃ be0, behindA b (hs i) = be0 := ⟨_, rfl⟩
          obtain ⟨wh0, hwh0⟩ : ∃ wh0, whoD (hasP (b, nt)) M i = wh0 := ⟨_, rfl⟩
          rw [hat0] at h13
          rw [hbe0] at h14
          rw [hwh0] at h9
          subst h13 h14 h9
          generalize wc = wy at *
          have T := HT.out _ bel
          have hpl := place_any (T.P i hlt) (by omega) b
          rw [hat0, hbe0, HV.out] at hpl
          obtain ⟨hh', off', cap', hv, C⟩ := T.host hlt
          injection hv with hv1 hv2 hv3
          injection hv1 with hv4
          injection hv4 with hv5 hv6
          subst hv5
          subst hv6
          rw [HV.out] at C
          have szh := szHo (.slice oP m cP)
          unfold hos at C szh hpl
          have y0 : wy.cell? ⟨yb, 0, none⟩ = some (.slice (some ⟨hh, off, none⟩) n cH') := (HY.out _ bel).cell 0
          have HWH := Lib.hid hwh0
          clear T hat0 hbe0 hwh0 hv2 hv3
          go_wp2_with (refine wpList_load_at rfl 50 _ rfl hh (off + i * 3) rfl #[.slice oP m cP, .string ⟨#[]⟩, .slice none 0 0] _ C Try.underlying50 rfl szh ?_)
          refine hpl.mono ?_
          rintro e w8 ⟨rfl, hb8⟩
          have HB8 := Lib.hid (bel.trans (hb8.mono (by rw [← hB1]; exact bel.size)))
          clear hpl C szh y0 hb8 bel
          go_wp2_with fail
          go_roundw
          case rel => exact ⟨i, by go_num, by omega, by rw [HWH.out], HB8.out⟩
          case measure => first | (simp [intOf]; done) | (simp [intOf]; omega)
  case rest =>
  clear bel
  obtain ⟨rfl, bel⟩ := hcut
  generalize wc = w7 at *
  obtain ⟨who, hwho⟩ : ∃ who, idxA (hasP (b, nt)) M = who := ⟨_, rfl⟩
  rw [hwho]
  have HWHO := Lib.hid hwho
  clear hwho
  go_upto_block 4 with fail
  go_cut [10] (fun s10 wx => s10 = .int .i64 (idxA (fun y : Int × Int => decide (y.1 = b)) ns) ∧ Below B1 w3 wx)
  case first =>
    go_wp2_with fail
    go_loopw [10, 19] (fun s10 s19 wr => ∃ k : Nat, s19 = .int .i64 (k : Nat) ∧ k ≤ len ∧ s10 = .int .i64 (idxA (fun y : Int × Int => decide (y.1 = b)) (ns.take k)) ∧ Below B1 w3 wr) (fun _ s19 _ => len - (intOf s19).toNat)
    case atStart => exact ⟨0, rfl, Nat.zero_le _, (by rw [List.take_zero]; rfl), bel⟩
    case round =>
      rename World => wr
      clear bel
      obtain ⟨k, rfl, hk, h10, bel⟩ := hrel
      obtain ⟨at0, hat0⟩ : ∃ at0, idxA (fun y : Int × Int => decide (y.1 = b)) (ns.take k) = at0 := ⟨_, rfl⟩
      rw [hat0] at h10
      subst h10
      have y1 : wr.cell? ⟨yb, 1, none⟩ = some (.slice oN' len cN') := (HY.out _ bel).cell 1
      by_cases hkl : k < len
      · obtain ⟨⟨x1, x2⟩, hx⟩ : ∃ x, ns[k]? = some x := ⟨_, List.getElem?_eq_getElem (by omega)⟩
        obtain ⟨nh, noff, hoN, _, _, CN⟩ := row_at (by have hq := (HT.out _ bel).N; rw [hlen] at hq; exact hq) hlen hx
        subst hoN
        have n0 : wr.cell? ⟨nh, noff + k * 2, none⟩ = some (.int .u32 x1) := CN.cell 0 rfl
        have hk0 : (0 : Int) ≤ (k : Int) := by omega
        have hk1 : (k : Int) < (len : Int) := by omega
        have HX := Lib.hid hx
        have HAP := Lib.hid (outer_apart (by have := HFI.out.goodN ns.length; rw [List.take_length] at this; exact this) hx)
        have HTL := Lib.hid (show ((ns.take k).length : Int) = (k : Int) by rw [List.length_take]; omega)
        have HAT := Lib.hid hat0
        have HB := Lib.hid bel
        clear hx CN hat0 bel
        by_cases e1 : x1 = b
        · have d1 : (x1 == b) = true := by rw [e1]; exact beq_self_eq_true _
          have d1' : decide (x1 = b) = true := decide_eq_true e1
          go_wp2_with fail
          go_roundw
          case rel => exact ⟨k + 1, by go_num, by omega, by rw [take_snoc HX.out, step_at HAP.out, if_pos e1, HTL.out], HB.out⟩
          case measure => simp [intOf]; omega
        · have d1 : (x1 == b) = false := beq_eq_false_iff_ne.2 e1
          have d1' : decide (x1 = b) = false := decide_eq_false e1
          go_wp2_with fail
          go_roundw
          case rel => exact ⟨k + 1, by go_num, by omega, by rw [take_snoc HX.out, step_at HAP.out, if_neg e1, HAT.out], HB.out⟩
          case measure => simp [intOf]; omega
      · obtain rfl : k = len := by omega
        have hta : ns.take k = ns := by rw [← hlen]; exact List.take_length
        rw [hta] at hat0
        have HF := Lib.hid (show Value.int .i64 at0 = .int .i64 (idxA (fun y : Int × Int => decide (y.1 = b)) ns) ∧ Below B1 w3 wr by rw [hat0]; exact ⟨rfl, bel⟩)
        clear bel hta hat0
        go_wp2_with fail
        go_meet
        exact HF.out
  case rest =>
  clear bel
  obtain ⟨rfl, bel⟩ := hcut
  generalize wc = w8 at *
  obtain ⟨out, hout⟩ : ∃ out, idxA (fun y : Int × Int => decide (y.1 = b)) ns = out := ⟨_, rfl⟩
  rw [hout]
  have y0 : w8.cell? ⟨yb, 0, none⟩ = some (.slice oH' n cH') := (HY.out _ bel).cell 0
  have y1 : w8.cell? ⟨yb, 1, none⟩ = some (.slice oN' len cN') := (HY.out _ bel).cell 1
  have hin := inside_any (HT.out _ bel) b nt
  rw [hM, HWHO.out] at hin
  go_wp2_with fail
  refine hin.mono ?_
  rintro e w9 ⟨rfl, hb⟩
  have bel9 := bel.trans (hb.mono (by rw [← hB1]; exact bel.size))
  clear hin y0 y1 hb bel
  have y0 : w9.cell? ⟨yb, 0, none⟩ = some (.slice oH' n cH') := (HY.out _ bel9).cell 0
  have y1 : w9.cell? ⟨yb, 1, none⟩ = some (.slice oN' len cN') := (HY.out _ bel9).cell 1
  have hna := nat_any (.slice oH' n cH') (HT.out _ bel9).N (by omega) b
  rw [hout] at hna
  go_wp2_with fail
  refine hna.mono ?_
  rintro e w10 ⟨rfl, hb⟩
  have bel10 := bel9.trans (hb.mono (by rw [← hB1]; exact bel9.size))
  clear hna y0 y1 hb bel9
  have y0 : w10.cell? ⟨yb, 0, none⟩ = some (.slice oH' n cH') := (HY.out _ bel10).cell 0
  have y1 : w10.cell? ⟨yb, 1, none⟩ = some (.slice oN' len cN') := (HY.out _ bel10).cell 1
  have ho1 := outer_out1 (HT.out _ bel10) (-1) 0 (.inl (by decide))
  go_wp2_with fail
  refine ho1.mono ?_
  rintro e w11 ⟨rfl, hb⟩
  have bel11 := bel10.trans (hb.mono (by rw [← hB1]; exact bel10.size))
  clear ho1 y0 y1 hb bel10
  have y0 : w11.cell? ⟨yb, 0, none⟩ = some (.slice oH' n cH') := (HY.out _ bel11).cell 0
  have y1 : w11.cell? ⟨yb, 1, none⟩ = some (.slice oN' len cN') := (HY.out _ bel11).cell 1
  have ho1 := outer_out1 (HT.out _ bel11) (n : Nat) 0 (.inr (Int.le_refl _))
  go_wp2_with fail
  refine ho1.mono ?_
  rintro e w12 ⟨rfl, hb⟩
  have bel12 := bel11.trans (hb.mono (by rw [← hB1]; exact bel11.size))
  clear ho1 y0 y1 hb bel11
  have y0 : w12.cell? ⟨yb, 0, none⟩ = some (.slice oH' n cH') := (HY.out _ bel12).cell 0
  have y1 : w12.cell? ⟨yb, 1, none⟩ = some (.slice oN' len cN') := (HY.out _ bel12).cell 1
  have ho1 := outer_out2 (HT.out _ bel12) 0 9 (by omega) (by have := hp6 0 (by omega); omega)
  go_wp2_with fail
  refine ho1.mono ?_
  rintro e w13 ⟨rfl, hb⟩
  have bel13 := bel12.trans (hb.mono (by rw [← hB1]; exact bel12.size))
  have HF := Lib.hid (HBL.out _ bel13)
  clear ho1 y0 y1 hb bel12 bel13
  go_wp2_with fail
  go_ret
  exact ⟨rfl, HF.out⟩
section
variable {H : Type} {enc : TypeId × Value → H} {W : World} {base : Nat}
theorem finds_open {v0 v1 v2 : Value} {d0 d1 d2 : DataW H} {p0 p1 p2 : List MemPlace} (o0 : Value.okWide Try.prog W .any base 42 v0) (o1 : Value.okWide Try.prog W .any base 28 v1) (o2 : Value.okWide Try.prog W .any base 3 v2)
    (h0 : DataW.Trod enc Try.prog W 0 (fun _ => true) true 42 v0 d0 p0) (h1 : DataW.Trod enc Try.prog W 0 (fun _ => true) true 28 v1 d1 p1) (h2 : DataW.Trod enc Try.prog W 0 (fun _ => true) true 3 v2 d2 p2) :
    Calls Try.prog 6 #[v0, v1, v2] W fun e w' => e = .returned (.bool true) ∧ Below W.heap.size W w' := by
  obtain ⟨oH, oN, aH, aN, nH, cH, nN, cN, E, EN, rfl, HH, HN⟩ := open_topo o0 h0
  obtain ⟨a, rfl, -, -⟩ := open_int Try.underlying28 o1 h1
  obtain ⟨nt, rfl, -, -⟩ := open_int Try.underlying3 o2 h2
  exact finds_any oH oN aH aN nH cH nN cN E EN W a nt HH HN
end
end Go.Proofs.Ythjhiogbnacmdaa.top
