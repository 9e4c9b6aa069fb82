/- Layer 32: which topologies may be, as the document says, walked. -/
import Derived.Test.YthjhiogbnacmdaaToI
import Derived.Test.YthjhiogbnacmdaaKitF
import Derived.BigQuiet
import Derived.Lib.QuietBelow
namespace Go.Proofs.Ythjhiogbnacmdaa.top
open Go.Sort (grow)
open Go.ChangeShapes Go.WideShapes Go.ChangeAt Go.RowKit kit
set_option maxRecDepth 100000

theorem eq_sp (a b c d : Int) (W : World) : (binOp .eql 79 (.agg #[.int .i64 a, .int .u32 b]) (.agg #[.int .i64 c, .int .u32 d])).run Try.prog W = .ok (.bool (decide (a = c) && decide (b = d))) W := by
  go_simp
  by_cases h1 : a = c <;> by_cases h2 : b = d <;> simp [h1, h2]
/-- What the document's answer is. -/
def FineR (n : Nat) (hs : Nat → List (Int × Int)) (ns : List (Int × Int)) (e : Ending) : Prop := ∃ b, e = .returned (.bool b) ∧ (b = true ↔ Fine n hs ns)
theorem FineR.no {n : Nat} {hs : Nat → List (Int × Int)} {ns : List (Int × Int)} {e : Ending} (he : e = .returned (.bool false)) (h : ¬ Fine n hs ns) : FineR n hs ns e := ⟨false, he, fun q => absurd q Bool.false_ne_true, fun q => absurd q h⟩
section
variable {w : World} {b0 : Nat} {vH vN : Value} {pv : Nat → Value} {hs : Nat → List (Int × Int)} {n : Nat} {ns : List (Int × Int)}
set_option maxHeartbeats 8000000 in
theorem fine_any (h : TM w b0 vH vN pv hs n ns) : Calls Try.prog 19 #[.agg #[vH, vN]] w fun e w' => FineR n hs ns e ∧ Below w.heap.size w w' := by
  obtain ⟨B0, hB0⟩ : ∃ B0, w.heap.size = B0 := ⟨_, rfl⟩
  have HT := Lib.hid (show ∀ w', Below B0 w w' → TM w' b0 vH vN pv hs n ns from fun w' hb => h.below hb (by omega))
  have hn8 := h.n8
  have hns6 := h.s6
  have hp6 := h.p6
  obtain ⟨oH, cH, hvH, _, _⟩ := h.H.shape
  obtain ⟨oN, cN, hvN, _, _⟩ := h.N.shape
  subst hvH hvN
  have F0 : Fs B0 w (w.alloc (.cells #[.slice oH n cH, .slice oN ns.length cN] 42)) (.slice none 0 0) [] (.slice oH n cH) (.slice oN ns.length cN) := ⟨Qo.nil _ _ _, by rw [← hB0]; exact Blk.new _ _ _, by rw [← hB0]; exact (Below.refl w.heap.size w).alloc (Nat.le_refl _) _⟩
  clear h
  rw [hB0]
  have HB0 := Lib.hid hB0
  go_enter Try.func19, Try.ntmps19
  go_upto_region 1 with fail
  obtain ⟨w1, hw1⟩ : ∃ w1, w.alloc (.cells #[.slice oH n cH, .slice oN ns.length cN] 42) = w1 := ⟨_, rfl⟩
  rw [hw1] at F0
  try rw [hw1]
  clear hw1 hB0
  have F1 : Fs B0 w (w1.alloc (.cells #[] 79)) (.slice (some ⟨w1.heap.size, 0, none⟩) 0 0) [] (.slice oH n cH) (.slice oN ns.length cN) := ⟨Qo.empty _ _ _ _, F0.X.alloc _, F0.bel.alloc (Nat.le_of_lt F0.X.lt) _⟩
  go_upto_block 0 with fail
  generalize w1.alloc (.cells #[] 79) = w2 at *
  generalize Value.slice (some ⟨w1.heap.size, 0, none⟩) 0 0 = v2 at *
  clear F0
  go_cut [3] (fun s3 wx => Most ns ∧ Fs B0 w wx s3 (spN ns) (.slice oH n cH) (.slice oN ns.length cN))
  case first =>
    go_wp2_with fail
    go_loopw [3, 4] (fun s3 s4 wr => ∃ i : Nat, s4 = .int .i64 (i : Nat) ∧ i ≤ ns.length ∧ Most (ns.take i) ∧ Fs B0 w wr s3 (spN (ns.take i)) (.slice oH n cH) (.slice oN ns.length cN)) (fun _ s4 _ => ns.length - (intOf s4).toNat)
    case atStart => exact ⟨0, rfl, Nat.zero_le _, (by rw [List.take_zero]; exact fun y h => absurd h List.not_mem_nil), (by rw [List.take_zero]; exact F1)⟩
    case round =>
      rename World => wr
      clear F1
      obtain ⟨i, rfl, hi, hm, F⟩ := hrel
      have T := HT.out _ F.bel
      have x1 : wr.cell? ⟨B0, 1, none⟩ = some (.slice oN ns.length cN) := F.X.cell 1
      by_cases hlt : i < ns.length
      · obtain ⟨y, hy⟩ : ∃ y, ns[i]? = some y := ⟨_, List.getElem?_eq_getElem hlt⟩
        obtain ⟨nh, noff, hoN, _, _, CN⟩ := row_at T.N rfl hy
        subst hoN
        have y0 : wr.cell? ⟨nh, noff + i * 2, none⟩ = some (.int .u32 y.1) := CN.cell 0 rfl
        have y1 : wr.cell? ⟨nh, noff + i * 2 + 1, none⟩ = some (.int .i64 y.2) := CN.cell 1 rfl
        have hi0 : (0 : Int) ≤ (i : Int) := by omega
        have hi1 : (i : Int) < (ns.length : Int) := by omega
        have HY := Lib.hid hy
        have HM := Lib.hid hm
        clear T CN hy hm
        by_cases e1 : y.2 < 0
        · clear y0
          have HF := Lib.hid F.bel
          clear F
          go_wp2_with fail
          go_ret
          exact ⟨FineR.no rfl fun f => absurd (f.most y (List.mem_of_getElem? HY.out)) (by omega), HF.out⟩
        · by_cases e2 : 256 < y.2
          · clear y0
            have HF := Lib.hid F.bel
            clear F
            go_wp2_with fail
            go_ret
            exact ⟨FineR.no rfl fun f => absurd (f.most y (List.mem_of_getElem? HY.out)) (by omega), HF.out⟩
          · have e1' : 0 ≤ y.2 := by omega
            have e2' : y.2 ≤ 256 := by omega
            obtain ⟨v7, w7, hr7, F7⟩ := F.app (-1, y.1) (by simp [spN]; omega)
            unfold sp at hr7
            dsimp only at hr7
            obtain ⟨o3, c3, hs3, _, _⟩ := F.q.shape
            have HF := Lib.hid F7
            clear F F7
            subst hs3
            go_upto_region 4 with (at_builtin; refine wpList_append_q rfl _ _ _ rfl rfl rfl hr7 ?_)
            clear hr7 x1 y0 y1
            go_wp2_with fail
            go_roundw
            case rel => exact ⟨i + 1, by go_num, by omega, by rw [take_snoc HY.out]; exact most_snoc.2 ⟨HM.out, e1', e2'⟩, by rw [take_snoc HY.out, spN_snoc]; exact HF.out⟩
            case measure => simp [intOf]; omega
      · obtain rfl : i = ns.length := by omega
        rw [List.take_length] at hm F
        have HF := Lib.hid (And.intro hm F)
        clear T F hm
        go_wp2_with fail
        go_meet
        exact HF.out
  case rest =>
  clear F1
  obtain ⟨hm, F⟩ := hcut
  go_upto_block 2 with fail
  generalize wc = w3 at *
  go_cut [3] (fun s3 wx => Pre n hs ns ∧ Fs B0 w wx s3 (spA ns hs n) (.slice oH n cH) (.slice oN ns.length cN))
  case first =>
    go_wp2_with fail
    go_loopw [3, 5] (fun s3 s5 wr => ∃ i : Nat, s5 = .int .i64 (i : Nat) ∧ i ≤ n ∧ Pre i hs ns ∧ Fs B0 w wr s3 (spA ns hs i) (.slice oH n cH) (.slice oN ns.length cN)) (fun _ s5 _ => n - (intOf s5).toNat)
    case atStart => exact ⟨0, rfl, Nat.zero_le _, ⟨hm, fun j hj => absurd hj (Nat.not_lt_zero j), fun j hj => absurd hj (Nat.not_lt_zero j)⟩, F⟩
    case round =>
      rename World => wr
      clear F hm
      obtain ⟨i, rfl, hi, hp, F⟩ := hrel
      have T := HT.out _ F.bel
      have x0 : wr.cell? ⟨B0, 0, none⟩ = some (.slice oH n cH) := F.X.cell 0
      by_cases hlt : i < n
      · obtain ⟨hh, off, cap, hv, C⟩ := T.host hlt
        injection hv with hv1 hv2 hv3
        subst hv1
        subst hv3
        obtain ⟨oP, cP, hvp, _, _⟩ := (T.P i hlt).shape
        have c0 : wr.cell? ⟨hh, off + i * 3, none⟩ = some (.slice oP (hs i).length cP) := by rw [← hvp]; exact C.cell 0 rfl
        have hi0 : (0 : Int) ≤ (i : Int) := by omega
        have hi1 : (i : Int) < (n : Int) := by omega
        have HP := Lib.hid hp
        have HV := Lib.hid hvp
        obtain ⟨m, hmm⟩ : ∃ m, (hs i).length = m := ⟨_, rfl⟩
        rw [hmm] at c0
        have HMM := Lib.hid hmm
        clear T C hvp hp hmm
        go_upto_region 12 with fail
        by_cases e1 : m < 1
        · have HF := Lib.hid F.bel
          have e1' : (m : Int) < 1 := by omega
          clear F
          go_wp2_with fail
          go_ret
          exact ⟨FineR.no rfl fun f => absurd (f.len i hlt) (by rw [HMM.out]; omega), HF.out⟩
        · by_cases e2 : 4 < m
          · have HF := Lib.hid F.bel
            have e1' : ¬ (m : Int) < 1 := by omega
            have e2' : (4 : Int) < (m : Int) := by omega
            clear F
            go_wp2_with fail
            go_ret
            exact ⟨FineR.no rfl fun f => absurd (f.len i hlt) (by rw [HMM.out]; omega), HF.out⟩
          · have e1' : ¬ (m : Int) < 1 := by omega
            have e2' : ¬ (4 : Int) < (m : Int) := by omega
            go_upto_block 4 with fail
            go_wp2_with fail
            go_loopw [3, 7] (fun s3 s7 wy => ∃ k : Nat, s7 = .int .i64 (k : Nat) ∧ k ≤ m ∧ HostP ns.length ((hs i).take k) ∧ Fs B0 w wy s3 (spA ns hs i ++ spH ((hs i).take k)) (.slice (some ⟨hh, off, none⟩) n cH) (.slice oN ns.length cN)) (fun _ s7 _ => m - (intOf s7).toNat)
            case atStart => exact ⟨0, rfl, Nat.zero_le _, (by rw [List.take_zero]; exact hostP_nil _), (by rw [List.take_zero]; show Fs B0 w wr _ (spA ns hs i ++ []) _ _; rw [List.append_nil]; exact F)⟩
            case round =>
              rename World => wy
              clear F x0 c0
              obtain ⟨k, rfl, hk, h1, F⟩ := hrel
              have T := HT.out _ F.bel
              have x1 : wy.cell? ⟨B0, 1, none⟩ = some (.slice oN ns.length cN) := F.X.cell 1
              by_cases hkl : k < m
              · obtain ⟨x, hx⟩ : ∃ x, (hs i)[k]? = some x := ⟨_, List.getElem?_eq_getElem (by rw [HMM.out]; omega)⟩
                obtain ⟨ph, poff, pcap, hvp, CP⟩ := T.place hlt hx
                have hvp2 := hvp
                rw [HV.out] at hvp
                injection hvp with hp1 hp2 hp3
                subst hp1
                have p0 : wy.cell? ⟨ph, poff + k * 2, none⟩ = some (.int .u32 x.1) := CP.cell 0 rfl
                have p1 : wy.cell? ⟨ph, poff + k * 2 + 1, none⟩ = some (.int .i64 x.2) := CP.cell 1 rfl
                have hk0 : (0 : Int) ≤ (k : Int) := by omega
                have hk1 : (k : Int) < (m : Int) := by omega
                have HX := Lib.hid hx
                have HH1 := Lib.hid h1
                have HV2 := Lib.hid hvp2
                obtain ⟨o3, c3, hs3, _, _⟩ := F.q.shape
                subst hs3
                generalize (spA ns hs i ++ spH ((hs i).take k)).length = lenL at F ⊢
                have hph := CP.1
                have q1 := cell_regrown p1
                have qx := cell_regrown x1
                clear T CP hx h1 hvp2 hp2 hp3
                go_upto_region 17 with fail
                by_cases e3 : x.2 < -1
                · clear p0 p1 x1
                  refine wp_region_quiet_below (by kernel_rfl) (by kernel_rfl) ?_
                  repeat (any_goals (first | go_big_quiet_step (fail) | quiet_step (fail)))
                  refine wpQuiet_nil ?_
                  intro _ hw'
                  obtain ⟨⟨dq, osq⟩, hw''⟩ := hw'
                  subst hw''
                  clear q1 qx
                  have FQ := F.below (below_regrown _ dq osq) (Nat.le_refl _)
                  have HF := Lib.hid FQ.bel
                  clear F FQ
                  go_wp2_with fail
                  go_ret
                  exact ⟨FineR.no rfl fun f => absurd ((f.host i hlt).1 x (List.mem_of_getElem? HX.out)) (by omega), HF.out⟩
                · by_cases e4 : (ns.length : Int) ≤ x.2
                  · clear p0 p1 x1
                    refine wp_region_quiet_below (by kernel_rfl) (by kernel_rfl) ?_
                    repeat (any_goals (first | go_big_quiet_step (fail) | quiet_step (fail)))
                    refine wpQuiet_nil ?_
                    intro _ hw'
                    obtain ⟨⟨dq, osq⟩, hw''⟩ := hw'
                    subst hw''
                    clear q1 qx
                    have FQ := F.below (below_regrown _ dq osq) (Nat.le_refl _)
                    have HF := Lib.hid FQ.bel
                    clear F FQ
                    go_wp2_with fail
                    go_ret
                    exact ⟨FineR.no rfl fun f => absurd ((f.host i hlt).1 x (List.mem_of_getElem? HX.out)) (by omega), HF.out⟩
                  · have e3' : -1 ≤ x.2 := by omega
                    have e4' : x.2 < (ns.length : Int) := by omega
                    have e4'' : ¬ (ns.length : Int) ≤ x.2 := e4
                    clear p0 p1 x1
                    refine wp_region_quiet_below (by kernel_rfl) (by kernel_rfl) ?_
                    repeat (any_goals (first | go_big_quiet_step (fail) | quiet_step (fail)))
                    refine wpQuiet_nil ?_
                    intro _ hw'
                    obtain ⟨⟨dq, osq⟩, hw''⟩ := hw'
                    subst hw''
                    clear q1 qx
                    have FQ := F.below (below_regrown _ dq osq) (Nat.le_refl _)
                    clear F
                    generalize grow (redrawn wy dq) osq = w4 at *
                    go_upto_block 6 with fail
                    go_cut [] (fun wx => (∀ y ∈ (hs i).take k, y.1 ≠ x.1) ∧ Fs B0 w wx (.slice o3 lenL c3) (spA ns hs i ++ spH ((hs i).take k)) (.slice (some ⟨hh, off, none⟩) n cH) (.slice oN ns.length cN))
                    case first =>
                      go_wp2_with fail
                      go_loopw [8] (fun s8 wz => ∃ z : Nat, s8 = .int .i64 (z : Nat) ∧ z ≤ k ∧ (∀ y ∈ (hs i).take z, y.1 ≠ x.1) ∧ Fs B0 w wz (.slice o3 lenL c3) (spA ns hs i ++ spH ((hs i).take k)) (.slice (some ⟨hh, off, none⟩) n cH) (.slice oN ns.length cN)) (fun s8 _ => k - (intOf s8).toNat)
                      case atStart => exact ⟨0, rfl, Nat.zero_le _, (by rw [List.take_zero]; exact fun y h => absurd h List.not_mem_nil), FQ⟩
                      case round =>
                        rename World => wz
                        clear FQ
                        obtain ⟨z, rfl, hz, h2, F⟩ := hrel
                        by_cases hzk : z < k
                        · obtain ⟨y, hy⟩ : ∃ y, (hs i)[z]? = some y := ⟨_, List.getElem?_eq_getElem (by rw [HMM.out]; omega)⟩
                          have T := HT.out _ F.bel
                          obtain ⟨ph', poff', pcap', hvp', CP⟩ := T.place hlt HX.out
                          rw [HV2.out] at hvp'
                          injection hvp' with hp1 hp2 hp3
                          injection hp1 with hp4
                          injection hp4 with hp5 hp6
                          subst hp5
                          subst hp6
                          obtain ⟨ph', poff', pcap', hvp', CY⟩ := T.place hlt hy
                          rw [HV2.out] at hvp'
                          injection hvp' with hp1 hp7 hp8
                          injection hp1 with hp4
                          injection hp4 with hp5 hp6
                          subst hp5
                          subst hp6
                          have p0 : wz.cell? ⟨ph, poff + k * 2, none⟩ = some (.int .u32 x.1) := CP.cell 0 rfl
                          have y0 : wz.cell? ⟨ph, poff + z * 2, none⟩ = some (.int .u32 y.1) := CY.cell 0 rfl
                          have q0 := cell_regrown p0
                          have r0 := cell_regrown y0
                          have hz0 : (0 : Int) ≤ (z : Int) := by omega
                          have hz1 : (z : Int) < (m : Int) := by omega
                          have hz2 : (z : Int) < (k : Int) := by omega
                          have HY := Lib.hid hy
                          have HZ := Lib.hid h2
                          clear T CP CY hy h2 p0 y0 hp2 hp3 hp7 hp8
                          go_upto_region 22 with fail
                          by_cases ee : y.1 = x.1
                          · have hde : decide (y.1 = x.1) = true := decide_eq_true ee
                            refine wp_region_quiet_below (by kernel_rfl) (by kernel_rfl) ?_
                            repeat (any_goals (first | go_big_quiet_step (fail) | quiet_step (fail)))
                            refine wpQuiet_nil ?_
                            intro _ hw'
                            obtain ⟨⟨dq, osq⟩, hw''⟩ := hw'
                            subst hw''
                            clear q0 r0
                            have FQ := F.below (below_regrown _ dq osq) (Nat.le_refl _)
                            have HF := Lib.hid FQ.bel
                            clear F FQ
                            go_wp2_with fail
                            go_ret
                            exact ⟨FineR.no rfl fun f => (hostP_snoc.1 (by rw [← take_snoc HX.out]; exact hostP_take (f.host i hlt) (k + 1))).2.2 y (List.mem_of_getElem? (i := z) (by rw [List.getElem?_take_of_lt hzk]; exact HY.out)) ee, HF.out⟩
                          · have hde : decide (y.1 = x.1) = false := decide_eq_false ee
                            refine wp_region_quiet_below (by kernel_rfl) (by kernel_rfl) ?_
                            repeat (any_goals (first | go_big_quiet_step (fail) | quiet_step (fail)))
                            refine wpQuiet_nil ?_
                            intro _ hw'
                            obtain ⟨⟨dq, osq⟩, hw''⟩ := hw'
                            subst hw''
                            clear q0 r0
                            have FQ := F.below (below_regrown _ dq osq) (Nat.le_refl _)
                            have HF := Lib.hid FQ
                            clear F FQ
                            go_wp2_with fail
                            go_roundw
                            case rel => exact ⟨z + 1, by go_num, by omega, by rw [take_snoc HY.out]; exact apart_snoc HZ.out ee, HF.out⟩
                            case measure => simp [intOf]; omega
                        · obtain rfl : z = k := by omega
                          have HF := Lib.hid (And.intro h2 F)
                          clear F h2
                          go_wp2_with fail
                          go_meet
                          exact HF.out
                    case rest =>
                      clear FQ
                      obtain ⟨h2, F⟩ := hcut
                      have T := HT.out _ F.bel
                      obtain ⟨ph', poff', pcap', hvp', CP⟩ := T.place hlt HX.out
                      rw [HV2.out] at hvp'
                      injection hvp' with hp1 hp2 hp3
                      injection hp1 with hp4
                      injection hp4 with hp5 hp6
                      subst hp5
                      subst hp6
                      have hll := spA_len (ns := ns) (hs := hs) (i := i) (fun j hj => (HP.out.len j hj).2)
                      have hll2 : (spA ns hs i ++ spH ((hs i).take k)).length ≤ 100 := by
                        rw [List.length_append]
                        simp only [spH, List.length_map, List.length_take]
                        omega
                      have HG := Lib.hid (by rw [take_snoc HX.out]; exact hostP_snoc.2 ⟨HH1.out, ⟨e3', e4'⟩, h2⟩ : HostP ns.length ((hs i).take (k + 1)))
                      obtain ⟨v7, w7, hr7, F7⟩ := F.drew.app (x.2, x.1) hll2
                      unfold sp at hr7
                      dsimp only at hr7
                      have CD := CP.drew
                      have T7 := HT.out _ F7.bel
                      obtain ⟨ph', poff', pcap', hvp', HSX⟩ := T7.place hlt HX.out
                      rw [HV2.out] at hvp'
                      injection hvp' with hp1 hp7 hp8
                      injection hp1 with hp4
                      injection hp4 with hp5 hp6
                      subst hp5
                      subst hp6
                      have HF7 := Lib.hid F7
                      clear T T7 CP F F7 h2 hll hll2 hp2 hp3 hp7 hp8
                      go_upto_region 24 with fail
                      refine wp_region_noPanic ?_
                      refine begin_C (fun v => Cel v ph (poff + k * 2) (pl x)) 13 (by kernel_rfl) ?_
                      generalize hw6 : World.drew _ = w6 at CD hr7 ⊢
                      clear hw6
                      have HS := CD
                      refine abs_C _ (fun ac hac => ?_)
                      have hsz : ac.tmps.size = 161 := by rw [hac]; rfl
                      have ea : ac.eval (.tmp 3) = .slice o3 lenL c3 := by rw [hac]; rfl
                      have eb : ac.eval (.tmp 6) = .slice (some ⟨ph, poff, none⟩) m cP := by rw [hac]; rfl
                      have ec : ac.eval (.tmp 7) = .int .i64 (k : Nat) := by rw [hac]; rfl
                      have HB := Lib.hid hac
                      clear hac
                      have EV := And.intro @Act.eval_put_ne (And.intro @Act.eval_put_same (And.intro @Act.size_put (And.intro hsz (And.intro ea (And.intro eb ec)))))
                      refine take_Y (i := 0) (u := .slice o3 lenL c3) rfl (by kernel_rfl) (by kernel_rfl) (by kernel_rfl) (by decide) rfl rfl (fun _ _ _ h => h) HS (fun v => run_move rfl (by simp [EV]) v) ?_
                      refine take_Y (i := 1) (u := .slice (some ⟨ph, poff, none⟩) m cP) rfl (by kernel_rfl) (by kernel_rfl) (by kernel_rfl) (by decide) rfl rfl (fun _ _ _ h => h) HS (fun v => run_move rfl (by simp [EV]) v) ?_
                      refine take_Y (i := 2) (u := .int .i64 (k : Nat)) rfl (by kernel_rfl) (by kernel_rfl) (by kernel_rfl) (by decide) rfl rfl (fun _ _ _ h => h) HS (fun v => run_move rfl (by simp [EV]) v) ?_
                      refine take_Y (i := 3) (u := .pointer (some ⟨ph, poff + k * 2, none⟩)) rfl (by kernel_rfl) (by kernel_rfl) (by kernel_rfl) (by decide) rfl rfl (fun _ _ _ h => h) HS (fun v => run_index (s := .slice (some ⟨ph, poff, none⟩) m cP) (j := .int .i64 (k : Nat)) rfl (by simp [EV]) (by simp [EV]) (by go_simp)) ?_
                      refine take_Y (i := 4) (u := .pointer (some ⟨ph, poff + k * 2 + 1, none⟩)) rfl (by kernel_rfl) (by kernel_rfl) (by kernel_rfl) (by decide) rfl rfl (fun _ _ _ h => h) HS (fun v => run_field (s := .pointer (some ⟨ph, poff + k * 2, none⟩)) rfl (by simp [EV]) (by go_simp)) ?_
                      refine take_C (i := 5) [11, 12] (u := .int .i64 x.2) rfl (by kernel_rfl) (by kernel_rfl) (by kernel_rfl) (by kernel_rfl) (by kernel_rfl) (by decide) rfl rfl (fun _ _ _ h => h) HS (fun v hv => run_load1 (s := .pointer (some ⟨ph, poff + k * 2 + 1, none⟩)) rfl (by simp [EV]) (by have c : v.cell? ⟨ph, poff + k * 2 + 1, none⟩ = some (.int .i64 x.2) := hv.cell 1 rfl; go_simp)) ?_
                      refine take_Y (i := 6) (u := .slice (some ⟨ph, poff, none⟩) m cP) rfl (by kernel_rfl) (by kernel_rfl) (by kernel_rfl) (by decide) rfl rfl (fun _ _ _ h => h) HS (fun v => run_move rfl (by simp [EV]) v) ?_
                      refine take_Y (i := 7) (u := .int .i64 (k : Nat)) rfl (by kernel_rfl) (by kernel_rfl) (by kernel_rfl) (by decide) rfl rfl (fun _ _ _ h => h) HS (fun v => run_move rfl (by simp [EV]) v) ?_
                      refine take_Y (i := 8) (u := .pointer (some ⟨ph, poff + k * 2, none⟩)) rfl (by kernel_rfl) (by kernel_rfl) (by kernel_rfl) (by decide) rfl rfl (fun _ _ _ h => h) HS (fun v => run_index (s := .slice (some ⟨ph, poff, none⟩) m cP) (j := .int .i64 (k : Nat)) rfl (by simp [EV]) (by simp [EV]) (by go_simp)) ?_
                      refine take_Y (i := 9) (u := .pointer (some ⟨ph, poff + k * 2, none⟩)) rfl (by kernel_rfl) (by kernel_rfl) (by kernel_rfl) (by decide) rfl rfl (fun _ _ _ h => h) HS (fun v => run_field (s := .pointer (some ⟨ph, poff + k * 2, none⟩)) rfl (by simp [EV]) (by go_simp)) ?_
                      refine take_C (i := 10) [11, 12] (u := .int .u32 x.1) rfl (by kernel_rfl) (by kernel_rfl) (by kernel_rfl) (by kernel_rfl) (by kernel_rfl) (by decide) rfl rfl (fun _ _ _ h => h) HS (fun v hv => run_load1 (s := .pointer (some ⟨ph, poff + k * 2, none⟩)) rfl (by simp [EV]) (by have c : v.cell? ⟨ph, poff + k * 2, none⟩ = some (.int .u32 x.1) := hv.cell 0 rfl; go_simp)) ?_
                      refine take_Y (i := 11) (u := .agg #[.int .i64 x.2, .int .u32 x.1]) rfl (by kernel_rfl) (by kernel_rfl) (by kernel_rfl) (by decide) rfl rfl (fun _ _ _ h => h) HS (fun v => run_build2 (s0 := .int .i64 x.2) (s1 := .int .u32 x.1) rfl (by simp [EV]) (by simp [EV]) (by kernel_rfl)) ?_
                      refine val_C (i := 12) (u := .slice (some ⟨w6.heap.size, 0, none⟩) 1 1) (w' := w6.alloc (.cells #[.int .i64 x.2, .int .u32 x.1] 79)) (by kernel_rfl) rfl rfl rfl (fun _ => HS.alloc _) (run_build1 (u := .agg #[.int .i64 x.2, .int .u32 x.1]) rfl (by simp [EV]) (by kernel_rfl)) ?_
                      refine app_C (i := 13) (by kernel_rfl) rfl rfl rfl rfl (by simp [EV]) (by simp [EV]) hr7 (fun h => absurd rfl h) ?_
                      refine val_C (i := 14) (u := v7) (w' := w7) (by kernel_rfl) rfl rfl rfl (fun _ => HSX) (run_assign rfl (by simp [EV]) _) ?_
                      refine done_C (by kernel_rfl) ?_ _
                      refine NoPanic.normal ?_
                      rw [HB.out]
                      simp only [Act.put, List.setIfInBounds_toArray, List.set_cons_zero, List.set_cons_succ]
                      have F8 := HF7.out
                      obtain ⟨o8, c8, hv8, _, _⟩ := F8.q.shape
                      subst hv8
                      have HF8 := Lib.hid (by rw [take_snoc HX.out, spH_snoc, ← List.append_assoc]; exact F8 : Fs B0 w w7 _ (spA ns hs i ++ spH ((hs i).take (k + 1))) (.slice (some ⟨hh, off, none⟩) n cH) (.slice oN ns.length cN))
                      clear HB HS EV ea eb ec hsz hr7 CD F8
                      go_wp2_with fail
                      go_roundw
                      case rel => exact ⟨k + 1, by go_num, by omega, HG.out, HF8.out⟩
                      case measure => simp [intOf]; omega
              · obtain rfl : k = m := by omega
                have hta : (hs i).take k = hs i := by rw [← HMM.out]; exact List.take_length
                rw [hta] at h1 F
                have HF := Lib.hid F
                have HR := Lib.hid (HP.out.next (by rw [HMM.out]; omega) (by rw [HMM.out]; omega) h1)
                clear F T x1 h1
                go_wp2_with fail
                go_roundw
                case rel => exact ⟨i + 1, by go_num, by omega, HR.out, HF.out⟩
                case measure => simp [intOf]; omega
      · obtain rfl : i = n := by omega
        have HF := Lib.hid (And.intro hp F)
        clear T F hp
        go_wp2_with fail
        go_meet
        exact HF.out
  case rest =>
  clear F hm
  obtain ⟨hp, F⟩ := hcut
  generalize wc = w4 at *
  have hL := spA_len (ns := ns) (hs := hs) (i := n) (fun j hj => (hp.len j hj).2)
  have HP := Lib.hid hp
  obtain ⟨L, hLe⟩ : ∃ L, spA ns hs n = L := ⟨_, rfl⟩
  rw [hLe] at F hL
  have HLe := Lib.hid hLe
  obtain ⟨o3, c3, hs3, _, _⟩ := F.q.shape
  subst hs3
  clear hp hLe
  go_upto_block 8 with fail
  go_cut [] (fun wx => Good L ∧ Fs B0 w wx (.slice o3 L.length c3) L (.slice oH n cH) (.slice oN ns.length cN))
  case first =>
    go_wp2_with fail
    go_loopw [9] (fun s9 wr => ∃ i : Nat, s9 = .int .i64 (i : Nat) ∧ i ≤ L.length ∧ Good (L.take i) ∧ Fs B0 w wr (.slice o3 L.length c3) L (.slice oH n cH) (.slice oN ns.length cN)) (fun s9 _ => L.length - (intOf s9).toNat)
    case atStart => exact ⟨0, rfl, Nat.zero_le _, (by rw [List.take_zero]; exact good_nil), F⟩
    case round =>
      rename World => wr
      clear F
      obtain ⟨i, rfl, hi, hg, F⟩ := hrel
      by_cases hlt : i < L.length
      · obtain ⟨x, hx⟩ : ∃ x, L[i]? = some x := ⟨_, List.getElem?_eq_getElem hlt⟩
        have hi0 : (0 : Int) ≤ (i : Int) := by omega
        have hi1 : (i : Int) < (L.length : Int) := by omega
        have HX := Lib.hid hx
        have HG := Lib.hid hg
        have hgx := fun (f : Fine n hs ns) => good_snoc.1 (by rw [← take_snoc hx]; exact good_sub (List.take_sublist _ _) (by have := f.good; rw [HLe.out] at this; exact this) : Good (L.take i ++ [x]))
        have HGX := Lib.hid hgx
        clear hx hg hgx
        go_upto_block 10 with fail
        go_cut [] (fun wx => x ∉ L.take i ∧ Fs B0 w wx (.slice o3 L.length c3) L (.slice oH n cH) (.slice oN ns.length cN))
        case first =>
          go_wp2_with fail
          go_loopw [10] (fun s10 wy => ∃ k : Nat, s10 = .int .i64 (k : Nat) ∧ k ≤ i ∧ x ∉ L.take k ∧ Fs B0 w wy (.slice o3 L.length c3) L (.slice oH n cH) (.slice oN ns.length cN)) (fun s10 _ => i - (intOf s10).toNat)
          case atStart => exact ⟨0, rfl, Nat.zero_le _, (by rw [List.take_zero]; exact List.not_mem_nil), F⟩
          case round =>
            rename World => wy
            clear F
            obtain ⟨k, rfl, hk, h2, F⟩ := hrel
            by_cases hki : k < i
            · obtain ⟨y, hy⟩ : ∃ y, L[k]? = some y := ⟨_, List.getElem?_eq_getElem (by omega)⟩
              obtain ⟨gh, goff, ho3, _, _, CX⟩ := spot_at F.q rfl HX.out
              obtain ⟨gh', goff', ho3', _, _, CY⟩ := spot_at F.q rfl hy
              subst ho3
              injection ho3' with hp4
              injection hp4 with hp5 hp6
              subst hp5
              subst hp6
              have hk0 : (0 : Int) ≤ (k : Int) := by omega
              have hk1 : (k : Int) < (i : Int) := by omega
              have hk2 : (k : Int) < (L.length : Int) := by omega
              have HY := Lib.hid hy
              have HZ := Lib.hid h2
              clear hy h2
              obtain ⟨bb, hbb⟩ : ∃ bb, (decide (x.1 = y.1) && decide (x.2 = y.2)) = bb := ⟨_, rfl⟩
              have heq : ∀ W, (binOp .eql 79 (.agg #[.int .i64 x.1, .int .u32 x.2]) (.agg #[.int .i64 y.1, .int .u32 y.2])).run Try.prog W = .ok (.bool bb) W := fun W => by rw [← hbb]; exact eq_sp x.1 x.2 y.1 y.2 W
              have HBB := Lib.hid hbb
              clear hbb
              have szx := szSp x
              have szy := szSp y
              unfold sp at szx szy CX CY
              go_upto_region 31 with fail
              cases bb
              · refine wp_region_quiet_below (by kernel_rfl) (by kernel_rfl) ?_
                repeat (any_goals (first | (refine wpQuiet_load_at (by rfl) 79 (.tmp 132) (by rfl) gh (goff + i * 2) (by rfl) #[.int .i64 x.1, .int .u32 x.2] _ Try.underlying79 (by rfl) szx (fun w' hw' => by obtain ⟨q, rfl⟩ := hw'; exact CX.below (below_regrown wy _ _) CX.lt) ?_) | (refine wpQuiet_load_at (by rfl) 79 (.tmp 136) (by rfl) gh (goff + k * 2) (by rfl) #[.int .i64 y.1, .int .u32 y.2] _ Try.underlying79 (by rfl) szy (fun w' hw' => by obtain ⟨q, rfl⟩ := hw'; exact CY.below (below_regrown wy _ _) CY.lt) ?_) | go_big_quiet_step (fail) | quiet_step (fail)))
                refine wpQuiet_nil ?_
                intro _ hw'
                obtain ⟨⟨dq, osq⟩, hw''⟩ := hw'
                subst hw''
                have FQ := F.below (below_regrown _ dq osq) (Nat.le_refl _)
                have HF := Lib.hid FQ
                clear F FQ CX CY heq szx szy
                go_wp2_with fail
                go_roundw
                case rel => exact ⟨k + 1, by go_num, by omega, by
                  rw [take_snoc HY.out, List.mem_append, List.mem_singleton]
                  rintro (q | q)
                  · exact HZ.out q
                  · have := HBB.out
                    rw [q] at this
                    simp at this, HF.out⟩
                case measure => simp [intOf]; omega
              · refine wp_region_quiet_below (by kernel_rfl) (by kernel_rfl) ?_
                repeat (any_goals (first | (refine wpQuiet_load_at (by rfl) 79 (.tmp 132) (by rfl) gh (goff + i * 2) (by rfl) #[.int .i64 x.1, .int .u32 x.2] _ Try.underlying79 (by rfl) szx (fun w' hw' => by obtain ⟨q, rfl⟩ := hw'; exact CX.below (below_regrown wy _ _) CX.lt) ?_) | (refine wpQuiet_load_at (by rfl) 79 (.tmp 136) (by rfl) gh (goff + k * 2) (by rfl) #[.int .i64 y.1, .int .u32 y.2] _ Try.underlying79 (by rfl) szy (fun w' hw' => by obtain ⟨q, rfl⟩ := hw'; exact CY.below (below_regrown wy _ _) CY.lt) ?_) | go_big_quiet_step (fail) | quiet_step (fail)))
                refine wpQuiet_nil ?_
                intro _ hw'
                obtain ⟨⟨dq, osq⟩, hw''⟩ := hw'
                subst hw''
                have FQ := F.below (below_regrown _ dq osq) (Nat.le_refl _)
                have HF := Lib.hid FQ.bel
                clear F FQ CX CY heq szx szy
                go_wp2_with fail
                go_ret
                exact ⟨FineR.no rfl fun f => (HGX.out f).2.1 (by
                  have hq := HBB.out
                  simp only [Bool.and_eq_true, decide_eq_true_eq] at hq
                  have : x = y := Prod.ext hq.1 hq.2
                  rw [this]
                  exact List.mem_of_getElem? (i := k) (by rw [List.getElem?_take_of_lt hki]; exact HY.out)), HF.out⟩
            · obtain rfl : k = i := by omega
              have HF := Lib.hid (And.intro h2 F)
              clear F h2
              go_wp2_with fail
              go_meet
              exact HF.out
        case rest =>
          clear F
          obtain ⟨h2, F⟩ := hcut
          obtain ⟨gh, goff, ho3, _, _, CX⟩ := spot_at F.q rfl HX.out
          subst ho3
          have x1 : wc.cell? ⟨gh, goff + i * 2 + 1, none⟩ = some (.int .u32 x.2) := CX.cell 1 rfl
          have HF := Lib.hid F
          have HZ := Lib.hid h2
          clear F CX h2
          by_cases e1 : x.2 = 0
          · have d0 : (x.2 == 0) = true := by rw [e1]; rfl
            go_wp2_with fail
            go_ret
            exact ⟨FineR.no rfl fun f => (HGX.out f).2.2 e1, HF.out.bel⟩
          · have d0 : (x.2 == 0) = false := beq_eq_false_iff_ne.2 e1
            go_wp2_with fail
            go_roundw
            case rel => exact ⟨i + 1, by go_num, by omega, by rw [take_snoc HX.out]; exact good_snoc.2 ⟨HG.out, HZ.out, e1⟩, HF.out⟩
            case measure => simp [intOf]; omega
      · obtain rfl : i = L.length := by omega
        rw [List.take_length] at hg
        have HF := Lib.hid (And.intro hg F)
        clear F hg
        go_wp2_with fail
        go_meet
        exact HF.out
  case rest =>
  clear F
  obtain ⟨hg, F⟩ := hcut
  have x0 : wc.cell? ⟨B0, 0, none⟩ = some (.slice oH n cH) := F.X.cell 0
  have x1 : wc.cell? ⟨B0, 1, none⟩ = some (.slice oN ns.length cN) := F.X.cell 1
  have HF := Lib.hid F.bel
  have HG := Lib.hid hg
  clear F hg
  by_cases e1 : (1 : Int) ≤ (n : Int)
  · by_cases e2 : (n : Int) ≤ 6
    · by_cases e3 : (ns.length : Int) ≤ 4
      · go_wp2_with fail
        go_ret
        exact ⟨⟨true, rfl, fun _ => ⟨HP.out.most, HP.out.len, HP.out.host, by rw [HLe.out]; exact HG.out, by omega, by omega, by omega⟩, fun _ => rfl⟩, HF.out⟩
      · go_wp2_with fail
        go_ret
        exact ⟨FineR.no rfl fun f => absurd f.ns4 (by omega), HF.out⟩
    · go_wp2_with fail
      go_ret
      exact ⟨FineR.no rfl fun f => absurd f.n6 (by omega), HF.out⟩
  · go_wp2_with fail
    go_ret
    exact ⟨FineR.no rfl fun f => absurd f.n1 (by omega), HF.out⟩
end
end Go.Proofs.Ythjhiogbnacmdaa.top
